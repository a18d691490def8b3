/-
  Tsm, Tsi, Tsj, Tsk, Tsl, Tsa, Tsn, Tsh, Tso, merged.
-/
import Derived.Test.YtjejdcehlckfhaaGreatSorti
import Derived.Test.YtjejdcehlckfhaaGreatSigm
import Derived.Test.YtjejdcehlckfhaaGreatSigs
import Derived.Test.YtjejdcehlckfhaaGreatGramo
import Derived.Deep.RegionHeld3
import Derived.Test.YtjejdcehlckfhaaGreatGg
import Derived.Test.YtjejdcehlckfhaaGreatGf
import Derived.Test.YtjejdcehlckfhaaGreatSortg
import Derived.Test.YtjejdcehlckfhaaGreatSigk
import Derived.Test.YtjejdcehlckfhaaGreatGx
/-
  PLAIN MATHEMATICS OF THE SORTS OF TERMS: what declarations give, closed upwards, over all ways to combine arguments two at a time.
-/
namespace Go.Proofs.YtjejdcehlckfhaaGreat.tsm
open mem setm sortm sortn sortp sorti sigm

/-! ### sums of sets -/
def orL {α : Type} (f : α → Nat) (L : List α) : Nat := L.foldl (fun s x => s ||| f x) 0
theorem orL_from {α : Type} (f : α → Nat) (j : Nat) : ∀ (L : List α) (s : Nat), (L.foldl (fun s x => s ||| f x) s).testBit j = (s.testBit j || L.any fun x => (f x).testBit j)
  | [], s => by simp
  | x :: L, s => by rw [List.foldl_cons, orL_from f j L, Nat.testBit_or, List.any_cons, Bool.or_assoc]
theorem orL_bit {α : Type} (f : α → Nat) (L : List α) (j : Nat) : (orL f L).testBit j = L.any fun x => (f x).testBit j := by
  rw [orL, orL_from, Nat.zero_testBit, Bool.false_or]
theorem orL_snoc {α : Type} (f : α → Nat) (L : List α) (x : α) : orL f (L ++ [x]) = orL f L ||| f x := by rw [orL, List.foldl_append]; rfl
theorem orL_lt {α : Type} (f : α → Nat) (L : List α) (n : Nat) (h : ∀ x ∈ L, f x < 2 ^ n) : orL f L < 2 ^ n :=
  Nat.lt_pow_two_of_testBit _ fun j hj => by
    rw [orL_bit, List.any_eq_false]
    intro x hx
    rw [Nat.testBit_lt_two_pow (Nat.lt_of_lt_of_le (h x hx) (Nat.pow_le_pow_right (by decide) hj))]
    simp
theorem orL_congr {α : Type} {f g : α → Nat} {L : List α} (h : ∀ x ∈ L, f x = g x) : orL f L = orL g L := by
  apply Nat.eq_of_testBit_eq
  intro j
  rw [orL_bit, orL_bit, Bool.eq_iff_iff, List.any_eq_true, List.any_eq_true]
  constructor
  · rintro ⟨x, hx, e⟩; exact ⟨x, hx, by rw [← h x hx]; exact e⟩
  · rintro ⟨x, hx, e⟩; exact ⟨x, hx, by rw [h x hx]; exact e⟩
theorem orL_mem {α : Type} {f : α → Nat} {L M : List α} (h : ∀ x, x ∈ L ↔ x ∈ M) : orL f L = orL f M := by
  apply Nat.eq_of_testBit_eq
  intro j
  rw [orL_bit, orL_bit, Bool.eq_iff_iff, List.any_eq_true, List.any_eq_true]
  exact ⟨fun ⟨x, hx, e⟩ => ⟨x, (h x).1 hx, e⟩, fun ⟨x, hx, e⟩ => ⟨x, (h x).2 hx, e⟩⟩
theorem orL_map {α β : Type} (f : β → Nat) (g : α → β) (L : List α) : orL f (L.map g) = orL (fun x => f (g x)) L := by
  apply Nat.eq_of_testBit_eq
  intro j
  rw [orL_bit, orL_bit, List.any_map]
  rfl

/-! ### closed upwards -/
def upC (U : List Nat) (S : Nat) : Nat := orL (fun k => U.getD k 0) (els S)
theorem upC_bit (U : List Nat) (S j : Nat) : (upC U S).testBit j = true ↔ ∃ k, k < 16 ∧ S.testBit k = true ∧ (U.getD k 0).testBit j = true := by
  rw [upC, orL_bit, List.any_eq_true]
  constructor
  · rintro ⟨k, hk, e⟩; exact ⟨k, (mem_els.1 hk).1, (mem_els.1 hk).2, e⟩
  · rintro ⟨k, h1, h2, e⟩; exact ⟨k, mem_els.2 ⟨h1, h2⟩, e⟩
theorem upC_lt {U : List Nat} (hU : Lim U) (S : Nat) : upC U S < 2 ^ U.length := orL_lt _ _ _ fun k _ => hU.2 k
theorem upC_or (U : List Nat) (S T : Nat) : upC U (S ||| T) = upC U S ||| upC U T := by
  apply Nat.eq_of_testBit_eq
  intro j
  rw [Bool.eq_iff_iff, Nat.testBit_or, Bool.or_eq_true, upC_bit, upC_bit, upC_bit]
  constructor
  · rintro ⟨k, h1, h2, e⟩
    rw [Nat.testBit_or, Bool.or_eq_true] at h2
    rcases h2 with h2 | h2
    · exact .inl ⟨k, h1, h2, e⟩
    · exact .inr ⟨k, h1, h2, e⟩
  · rintro (⟨k, h1, h2, e⟩ | ⟨k, h1, h2, e⟩)
    · exact ⟨k, h1, by rw [Nat.testBit_or, h2, Bool.true_or], e⟩
    · exact ⟨k, h1, by rw [Nat.testBit_or, h2, Bool.or_true], e⟩
theorem upC_zero (U : List Nat) : upC U 0 = 0 := by
  apply Nat.eq_of_testBit_eq
  intro j
  rw [Bool.eq_iff_iff, upC_bit]
  simp
theorem upC_orL {α : Type} (U : List Nat) (f : α → Nat) (L : List α) : upC U (orL f L) = orL (fun x => upC U (f x)) L := by
  apply Nat.eq_of_testBit_eq
  intro j
  rw [Bool.eq_iff_iff, upC_bit, orL_bit, List.any_eq_true]
  constructor
  · rintro ⟨k, h1, h2, e⟩
    rw [orL_bit, List.any_eq_true] at h2
    obtain ⟨x, hx, h2⟩ := h2
    exact ⟨x, hx, (upC_bit _ _ _).2 ⟨k, h1, h2, e⟩⟩
  · rintro ⟨x, hx, e⟩
    obtain ⟨k, h1, h2, e⟩ := (upC_bit _ _ _).1 e
    exact ⟨k, h1, by rw [orL_bit, List.any_eq_true]; exact ⟨x, hx, h2⟩, e⟩
/-- the model's way: all sorts in turn -/
def closeTo (U : List Nat) (S : Nat) : Nat → Nat
  | 0 => 0
  | k + 1 => if S.testBit k then closeTo U S k ||| U.getD k 0 else closeTo U S k
theorem closeTo_bit (U : List Nat) (S j : Nat) : ∀ k, (closeTo U S k).testBit j = true ↔ ∃ i, i < k ∧ S.testBit i = true ∧ (U.getD i 0).testBit j = true
  | 0 => by simp [closeTo]
  | k + 1 => by
    rw [closeTo]
    have ih := closeTo_bit U S j k
    by_cases hs : S.testBit k = true
    · rw [if_pos hs, Nat.testBit_or, Bool.or_eq_true, ih]
      constructor
      · rintro (⟨i, h1, h2⟩ | h)
        · exact ⟨i, by omega, h2⟩
        · exact ⟨k, by omega, hs, h⟩
      · rintro ⟨i, h1, h2, h3⟩
        by_cases e : i = k
        · subst e; exact .inr h3
        · exact .inl ⟨i, by omega, h2, h3⟩
    · rw [if_neg hs, ih]
      constructor
      · rintro ⟨i, h1, h2⟩; exact ⟨i, by omega, h2⟩
      · rintro ⟨i, h1, h2, h3⟩
        have : i ≠ k := fun e => hs (e ▸ h2)
        exact ⟨i, by omega, h2, h3⟩
theorem closeTo_hit {U : List Nat} {S k : Nat} (h : S.testBit k = true) : closeTo U S (k + 1) = closeTo U S k ||| U.getD k 0 := by rw [closeTo, if_pos h]
theorem closeTo_miss {U : List Nat} {S k : Nat} (h : S.testBit k = false) : closeTo U S (k + 1) = closeTo U S k := by rw [closeTo, if_neg (by simp [h])]
theorem closeTo_eq {U : List Nat} (hU : Lim U) (S : Nat) : closeTo U S U.length = upC U S := by
  apply Nat.eq_of_testBit_eq
  intro j
  rw [Bool.eq_iff_iff, closeTo_bit, upC_bit]
  constructor
  · rintro ⟨i, h1, h2⟩; exact ⟨i, by have := hU.1; omega, h2⟩
  · rintro ⟨i, h1, h2, h3⟩
    refine ⟨i, ?_, h2, h3⟩
    apply Nat.lt_of_not_le
    intro hge
    rw [List.getD, List.getElem?_eq_none hge] at h3
    simp at h3
theorem closeTo_lt {U : List Nat} (hU : Lim U) (S k : Nat) : closeTo U S k < 2 ^ U.length :=
  Nat.lt_pow_two_of_testBit _ fun j hj => by
    cases h : (closeTo U S k).testBit j with
    | false => rfl
    | true =>
      obtain ⟨i, _, _, h3⟩ := (closeTo_bit U S j k).1 h
      rw [Nat.testBit_lt_two_pow (Nat.lt_of_lt_of_le (hU.2 i) (Nat.pow_le_pow_right (by decide) hj))] at h3
      cases h3

/-! ### what the declarations give -/
/-- the first k arguments have the sorts at their places -/
def fitTo (A : List Nat) (d : List Int) (k : Nat) : Bool := (List.range k).all fun i => (A.getD i 0).testBit (d.getD i 0).toNat
def fitD (A : List Nat) (d : List Int) : Bool := fitTo A d d.length
theorem fitTo_succ (A : List Nat) (d : List Int) (k : Nat) : fitTo A d (k + 1) = (fitTo A d k && (A.getD k 0).testBit (d.getD k 0).toNat) := by
  rw [fitTo, List.range_succ, List.all_append]; simp [fitTo]
theorem fitTo_no {A : List Nat} {d : List Int} {k : Nat} (hk : k < d.length) (h : (A.getD k 0).testBit (d.getD k 0).toNat = false) : fitD A d = false := by
  rw [fitD, fitTo, List.all_eq_false]
  exact ⟨k, List.mem_range.2 hk, by simp only [h]; simp⟩
def givF (A : List Nat) (d : List Int × Int) : Nat := if fitD A d.1 then 2 ^ d.2.toNat else 0
def giveR (D : List (List Int × Int)) (A : List Nat) : Nat := orL (givF A) D
theorem giveR_snoc (D : List (List Int × Int)) (A : List Nat) (d : List Int × Int) : giveR (D ++ [d]) A = giveR D A ||| givF A d := orL_snoc _ _ _
theorem takeD (D : List (List Int × Int)) (k : Nat) (h : k < D.length) : D.take (k + 1) = D.take k ++ [D.getD k ([], 0)] := by
  rw [List.take_succ_eq_append_getElem h]; simp [List.getD, List.getElem?_eq_getElem h]
theorem give_hit {D : List (List Int × Int)} {A : List Nat} {k : Nat} (h : k < D.length) (hf : fitD A (D.getD k ([], 0)).1 = true) : giveR (D.take (k + 1)) A = giveR (D.take k) A ||| 2 ^ (D.getD k ([], 0)).2.toNat := by
  rw [takeD D k h, giveR_snoc, givF, if_pos hf]
theorem give_miss {D : List (List Int × Int)} {A : List Nat} {k : Nat} (h : k < D.length) (hf : fitD A (D.getD k ([], 0)).1 = false) : giveR (D.take (k + 1)) A = giveR (D.take k) A := by
  rw [takeD D k h, giveR_snoc, givF, if_neg (by rw [hf]; decide), Nat.or_zero]
/-- declarations over n sorts, each of m arguments -/
def DeclN (n m : Nat) (D : List (List Int × Int)) : Prop := ∀ d ∈ D, d.1.length = m ∧ inN n d.2 = true ∧ ∀ k, k < m → inN n (d.1.getD k 0) = true
theorem DeclN.take {n m : Nat} {D : List (List Int × Int)} (h : DeclN n m D) (k : Nat) : DeclN n m (D.take k) := fun d hd => h d (List.mem_of_mem_take hd)
theorem giveR_lt {n m : Nat} {D : List (List Int × Int)} (h : DeclN n m D) (A : List Nat) : giveR D A < 2 ^ n := orL_lt _ _ _ fun d hd => by
  obtain ⟨_, h2, _⟩ := h d hd
  simp only [inN, decide_eq_true_eq] at h2
  unfold givF
  split
  · exact Nat.pow_lt_pow_right (by decide) (by omega)
  · exact Nat.two_pow_pos n

/-! ### groups of arguments: a group is the set of their places -/
def leftsF (g : Nat) : Nat → Nat → List Nat
  | 0, _ => []
  | f + 1, l => if l = 0 then [] else l :: leftsF g f ((l - 1) &&& g)
/-- the parts of a group, in the order in which they are tried -/
def lefts (g : Nat) : List Nat := leftsF g g ((g - 1) &&& g)
/-- what is left of the parts from l on -/
def leftsFrom (g l : Nat) : List Nat := leftsF g l l
theorem leftsF_fuel (g : Nat) : ∀ (f l : Nat), l ≤ f → leftsF g f l = leftsF g l l
  | 0, l, h => by have : l = 0 := by omega
                  subst this; rfl
  | f + 1, l, h => by
    by_cases hl : l = 0
    · subst hl; simp [leftsF]
    · obtain ⟨k, rfl⟩ : ∃ k, l = k + 1 := ⟨l - 1, by omega⟩
      have hle : (k &&& g) ≤ k := Nat.and_le_left
      rw [leftsF, if_neg hl, leftsF, if_neg hl, Nat.add_sub_cancel, leftsF_fuel g f _ (by omega), leftsF_fuel g k _ hle]
theorem lefts_from (g : Nat) : lefts g = leftsFrom g ((g - 1) &&& g) := leftsF_fuel g g _ (Nat.le_trans Nat.and_le_right (Nat.le_refl g))
theorem leftsFrom_zero (g : Nat) : leftsFrom g 0 = [] := rfl
theorem leftsFrom_cons (g l : Nat) (h : l ≠ 0) : leftsFrom g l = l :: leftsFrom g ((l - 1) &&& g) := by
  obtain ⟨k, rfl⟩ : ∃ k, l = k + 1 := ⟨l - 1, by omega⟩
  rw [leftsFrom, leftsF, if_neg h, Nat.add_sub_cancel, leftsF_fuel g k _ Nat.and_le_left]
  rfl
theorem mem_leftsF {g x : Nat} : ∀ (f l : Nat), (g &&& l = l) → x ∈ leftsF g f l → 0 < x ∧ x ≤ l ∧ g &&& x = x
  | 0, l, _, h => by simp [leftsF] at h
  | f + 1, l, hl, h => by
    rw [leftsF] at h
    split at h
    · simp at h
    · rename_i h0
      rcases List.mem_cons.1 h with rfl | h
      · exact ⟨by omega, Nat.le_refl _, hl⟩
      · have hs : g &&& ((l - 1) &&& g) = (l - 1) &&& g := by
          rw [Nat.and_comm (l - 1) g, ← Nat.and_assoc, Nat.and_self]
        obtain ⟨p1, p2, p3⟩ := mem_leftsF f _ hs h
        have := @Nat.and_le_left (l - 1) g
        exact ⟨p1, by omega, p3⟩
theorem mem_lefts {g x : Nat} (h : x ∈ lefts g) : 0 < x ∧ x < g ∧ g &&& x = x := by
  have hs : g &&& ((g - 1) &&& g) = (g - 1) &&& g := by
    rw [Nat.and_comm (g - 1) g, ← Nat.and_assoc, Nat.and_self]
  obtain ⟨p1, p2, p3⟩ := mem_leftsF g _ hs h
  have := @Nat.and_le_left (g - 1) g
  exact ⟨p1, by omega, p3⟩
/-- every element of the first is less than the least one of the second -/
def befo (l r : Nat) : Bool := decide (l < r &&& (65536 - r))
/-- the part of a group that is left when l is taken -/
abbrev rest (g l : Nat) : Nat := g ^^^ l
theorem rest_sub {g l : Nat} (h : g &&& l = l) : rest g l = minus g l := by rw [minus, h]
theorem rest_and {g l : Nat} (h : g &&& l = l) : l &&& rest g l = 0 ∧ rest g l &&& g = rest g l ∧ l ||| rest g l = g := by
  have hb : ∀ j, l.testBit j = true → g.testBit j = true := fun j hj => by
    have e := congrArg (fun z => Nat.testBit z j) h
    simp only [Nat.testBit_and, hj, Bool.and_true] at e
    exact e
  refine ⟨Nat.eq_of_testBit_eq fun j => ?_, Nat.eq_of_testBit_eq fun j => ?_, Nat.eq_of_testBit_eq fun j => ?_⟩
  · rw [Nat.testBit_and, Nat.testBit_xor, Nat.zero_testBit]
    cases h1 : l.testBit j with
    | false => rfl
    | true => rw [hb j h1]; rfl
  · rw [Nat.testBit_and, Nat.testBit_xor]
    cases h1 : l.testBit j with
    | false => cases g.testBit j <;> rfl
    | true => rw [hb j h1]; rfl
  · rw [Nat.testBit_or, Nat.testBit_xor]
    cases h1 : l.testBit j with
    | false => cases g.testBit j <;> rfl
    | true => rw [hb j h1]; rfl
theorem rest_lt {g l : Nat} (h : g &&& l = l) (h0 : 0 < l) : rest g l < g := by
  obtain ⟨h1, h2, h3⟩ := rest_and h
  have h4 : rest g l ≤ g := by rw [← h2]; exact Nat.and_le_right
  apply Nat.lt_of_le_of_ne h4
  intro e
  rw [e, Nat.and_comm, h] at h1
  omega
theorem rest_pos {g l : Nat} (h : g &&& l = l) (h0 : l < g) : 0 < rest g l := by
  obtain ⟨_, _, h3⟩ := rest_and h
  apply Nat.pos_of_ne_zero
  intro e
  rw [e, Nat.or_zero] at h3
  omega
def leftsC (com : Bool) (g : Nat) : List Nat := (lefts g).filter fun l => com || befo l (rest g l)
theorem mem_leftsC {com : Bool} {g x : Nat} (h : x ∈ leftsC com g) : 0 < x ∧ x < g ∧ g &&& x = x := mem_lefts (List.mem_filter.1 h).1

section
variable (com : Bool) (U : List Nat) (D : List (List Int × Int)) (A : List Nat)
/-- the place of a group of one -/
def oneOf (g : Nat) : Option Nat := (List.range 16).find? fun i => g == 2 ^ i
def valV (t : List Nat) (g : Nat) : Nat :=
  match oneOf g with
  | some i => A.getD i 0
  | none => upC U (orL (fun l => giveR D [t.getD l 0, t.getD (rest g l) 0]) (leftsC com g))
def tabV : Nat → List Nat
  | 0 => []
  | k + 1 => tabV k ++ [valV com U D A (tabV k) k]
/-- the sorts of a group of arguments, by all ways to combine them -/
def V (g : Nat) : Nat := valV com U D A (tabV com U D A g) g
theorem tabV_len : ∀ k, (tabV com U D A k).length = k
  | 0 => rfl
  | k + 1 => by rw [tabV, List.length_append, tabV_len k]; rfl
theorem tabV_get : ∀ (k l : Nat), l < k → (tabV com U D A k).getD l 0 = V com U D A l
  | 0, l, h => absurd h (Nat.not_lt_zero _)
  | k + 1, l, h => by
    rw [tabV]
    by_cases e : l = k
    · subst e
      rw [List.getD, List.getElem?_append_right (by rw [tabV_len]; exact Nat.le_refl _), tabV_len, Nat.sub_self]
      rfl
    · have hl : l < k := by omega
      rw [List.getD, List.getElem?_append_left (by rw [tabV_len]; exact hl)]
      exact tabV_get k l hl
theorem V_one {i : Nat} (h : i < 16) : V com U D A (2 ^ i) = A.getD i 0 := by
  have e : oneOf (2 ^ i) = some i := by
    unfold oneOf
    rw [List.find?_range_eq_some]
    refine ⟨by simp, List.mem_range.2 h, fun j hj => ?_⟩
    have := Nat.pow_lt_pow_right (a := 2) (by decide) hj
    simp; omega
  rw [V, valV, e]
theorem V_more {g : Nat} (h : oneOf g = none) : V com U D A g = upC U (orL (fun l => giveR D [V com U D A l, V com U D A (rest g l)]) (leftsC com g)) := by
  rw [V, valV, h]
  show upC U _ = upC U _
  rw [orL_congr fun l hl => ?_]
  obtain ⟨h1, h2, h3⟩ := mem_leftsC hl
  rw [tabV_get com U D A g l h2, tabV_get com U D A g _ (rest_lt h3 h1)]
theorem V_lt (hU : Lim U) (hA : ∀ i, A.getD i 0 < 2 ^ U.length) (g : Nat) : V com U D A g < 2 ^ U.length := by
  unfold V valV
  split
  · exact hA _
  · exact upC_lt hU _
end
/-- a group of two or more -/
theorem oneOf_none {g : Nat} (_h : g < 65536) (h2 : 2 ≤ (els g).length) : oneOf g = none := by
  unfold oneOf
  rw [List.find?_eq_none]
  intro i hi e
  have e' : g = 2 ^ i := by simpa using e
  have hi' : i < 16 := List.mem_range.1 hi
  have h3 : ∀ i : Fin 16, (els (2 ^ i.val)).length = 1 := by decide +kernel
  have := h3 ⟨i, hi'⟩
  rw [e'] at h2
  simp only at this
  omega
/-! ### how many are in a group -/
def cnt (g : Nat) : Nat := (els g).length
theorem cnt_small : ∀ g : Fin 128, cnt g.val ≤ 7 ∧ (cnt g.val = 0 → g.val = 0) ∧ (cnt g.val = 1 → ∃ i : Fin 7, g.val = 2 ^ i.val) := by decide +kernel
theorem cnt_parts : ∀ g : Fin 128, ∀ l ∈ lefts g.val, cnt l < cnt g.val ∧ cnt (rest g.val l) < cnt g.val := by decide +kernel
theorem cnt_within : ∀ n : Fin 8, ∀ g : Fin 128, g.val < 2 ^ n.val → cnt g.val ≤ n.val := by decide +kernel
theorem cnt_pow {i : Nat} (h : i < 16) : cnt (2 ^ i) = 1 := by
  have : ∀ i : Fin 16, cnt (2 ^ i.val) = 1 := by decide +kernel
  exact this ⟨i, h⟩
theorem lefts_pow {i : Nat} (h : i < 16) : lefts (2 ^ i) = [] := by
  have : ∀ i : Fin 16, lefts (2 ^ i.val) = [] := by decide +kernel
  exact this ⟨i, h⟩
/-- what has been filled in: all groups below a size, and those of the size below a group -/
def Done (com : Bool) (U : List Nat) (D : List (List Int × Int)) (A : List Nat) (s g : Nat) (f : Nat → Nat) : Prop :=
  ∀ x, 0 < x → x < 2 ^ A.length → (cnt x < s ∨ cnt x = s ∧ x < g) → f x = V com U D A x
section
variable {com : Bool} {U : List Nat} {D : List (List Int × Int)} {A : List Nat}
theorem done_step {s g : Nat} {f : Nat → Nat} (h : Done com U D A s g f) (hn : cnt g ≠ s) : Done com U D A s (g + 1) f := by
  intro x h0 hx hc
  refine h x h0 hx ?_
  rcases hc with hc | ⟨hc, hg⟩
  · exact .inl hc
  · refine .inr ⟨hc, ?_⟩
    have : x ≠ g := fun e => hn (e ▸ hc)
    omega
theorem done_fill {s g : Nat} {f : Nat → Nat} (h : Done com U D A s g f) {v : Nat} (hv : v = V com U D A g) : Done com U D A s (g + 1) (fun x => if x = g then v else f x) := by
  intro x h0 hx hc
  by_cases e : x = g
  · subst e; simp only [if_pos]; exact hv
  · simp only [if_neg e]
    refine h x h0 hx ?_
    rcases hc with hc | ⟨hc, hg⟩
    · exact .inl hc
    · exact .inr ⟨hc, by omega⟩
theorem done_next {s g : Nat} {f : Nat → Nat} (h : Done com U D A s g f) (hg : 2 ^ A.length ≤ g) : Done com U D A (s + 1) 0 f := by
  intro x h0 hx hc
  refine h x h0 hx ?_
  rcases hc with hc | ⟨_, hc⟩
  · by_cases e : cnt x = s
    · exact .inr ⟨e, by omega⟩
    · exact .inl (by omega)
  · exact absurd hc (Nat.not_lt_zero _)
theorem pow_len7 (h7 : A.length ≤ 7) : 2 ^ A.length ≤ 128 := Nat.le_trans (Nat.pow_le_pow_right (by decide) h7) (by decide)
theorem done_first (h7 : A.length ≤ 7) {f : Nat → Nat} (h : ∀ i, i < A.length → f (2 ^ i) = A.getD i 0) : Done com U D A 2 0 f := by
  intro x h0 hx hc
  have hp := pow_len7 h7
  rcases hc with hc | ⟨_, hc⟩
  · obtain ⟨_, h1, h2⟩ := cnt_small ⟨x, by omega⟩
    simp only at h1 h2
    have hx1 : cnt x = 1 := by
      have : cnt x ≠ 0 := fun e => by have := h1 e; omega
      omega
    obtain ⟨i, hi⟩ := h2 hx1
    have hil : i.val < A.length := by
      rw [hi] at hx
      exact (Nat.pow_lt_pow_iff_right (by decide)).1 hx
    rw [hi, h _ hil, V_one]
    omega
  · exact absurd hc (Nat.not_lt_zero _)
/-- what the parts of a group give, once all smaller groups are filled in -/
theorem done_give (h7 : A.length ≤ 7) {s g : Nat} {f : Nat → Nat} (h : Done com U D A s g f) (hc : cnt g = s) (h2 : 2 ≤ s) (hg : g < 2 ^ A.length) :
    V com U D A g = upC U (orL (fun l => giveR D [f l, f (rest g l)]) (leftsC com g)) := by
  have hp := pow_len7 h7
  rw [V_more com U D A (oneOf_none (by omega) (by show 2 ≤ cnt g; omega))]
  congr 1
  refine (orL_congr fun l hl => ?_).symm
  obtain ⟨h3, h4, h5⟩ := mem_leftsC hl
  have h6 := cnt_parts ⟨g, by omega⟩ l (List.mem_filter.1 hl).1
  simp only at h6
  have h8 := rest_lt h5 h3
  have h9 := rest_pos h5 h4
  rw [h l h3 (by omega) (.inl (by omega)), h _ h9 (by omega) (.inl (by omega))]
theorem done_whole (h7 : A.length ≤ 7) (h1 : 1 ≤ A.length) {g : Nat} {f : Nat → Nat} (h : Done com U D A (A.length + 1) g f) : f (2 ^ A.length - 1) = V com U D A (2 ^ A.length - 1) := by
  have hp := pow_len7 h7
  have h3 : 2 ^ 1 ≤ 2 ^ A.length := Nat.pow_le_pow_right (by decide) h1
  refine h _ (by omega) (by omega) (.inl ?_)
  have := cnt_within ⟨A.length, by omega⟩ ⟨2 ^ A.length - 1, by omega⟩ (by show 2 ^ A.length - 1 < 2 ^ A.length; omega)
  simp only at this
  omega
end

/-! ### arguments in their order: a group is an interval -/
def iv (i j : Nat) : Nat := 2 ^ (j + 1) - 2 ^ i
theorem iv_lefts : ∀ i : Fin 7, ∀ j : Fin 7, i.val < j.val → leftsC false (iv i.val j.val) = ((List.range (j.val - i.val)).map fun k => iv i.val (i.val + k)).reverse ∧ oneOf (iv i.val j.val) = none ∧ (∀ k : Fin 7, i.val + k.val < j.val → rest (iv i.val j.val) (iv i.val (i.val + k.val)) = iv (i.val + k.val + 1) j.val) := by decide +kernel
theorem iv_one (i : Nat) : iv i i = 2 ^ i := by unfold iv; rw [Nat.pow_succ]; omega
theorem iv_whole (n : Nat) (h : 1 ≤ n) : iv 0 (n - 1) = 2 ^ n - 1 := by unfold iv; rw [show n - 1 + 1 = n by omega]
/-- what the first k of the ways to part an interval give -/
def chainTo (U : List Nat) (D : List (List Int × Int)) (A : List Nat) (i j k : Nat) : Nat := orL (fun k => upC U (giveR D [V false U D A (iv i (i + k)), V false U D A (iv (i + k + 1) j)])) (List.range k)
theorem chainTo_succ (U : List Nat) (D : List (List Int × Int)) (A : List Nat) (i j k : Nat) : chainTo U D A i j (k + 1) = chainTo U D A i j k ||| upC U (giveR D [V false U D A (iv i (i + k)), V false U D A (iv (i + k + 1) j)]) := by
  rw [chainTo, List.range_succ, orL_snoc]; rfl
theorem chainTo_all (U : List Nat) (D : List (List Int × Int)) (A : List Nat) {i j : Nat} (hij : i < j) (hj : j < 7) : chainTo U D A i j (j - i) = V false U D A (iv i j) := by
  obtain ⟨h1, h2, h3⟩ := iv_lefts ⟨i, by omega⟩ ⟨j, hj⟩ hij
  simp only at h1 h2 h3
  rw [V_more false U D A h2, h1, upC_orL, chainTo]
  refine Eq.trans ?_ (orL_mem (L := (List.range (j - i)).map fun k => iv i (i + k)) (fun x => by rw [List.mem_reverse]))
  rw [orL_map]
  refine orL_congr fun k hk => ?_
  have hk' := List.mem_range.1 hk
  rw [h3 ⟨k, by omega⟩ (by show i + k < j; omega)]

/-! ### the sorts of an application -/
/-- what an operator gives for the sorts of its arguments -/
def sortsA (U : List Nat) (D : List (List Int × Int)) (ass com : Bool) (A : List Nat) : Nat := if ass || com then V com U D A (2 ^ A.length - 1) else upC U (giveR D A)
theorem lefts_three : leftsC true 3 = [2, 1] ∧ oneOf 3 = none := by decide +kernel
theorem V_two (U : List Nat) (D : List (List Int × Int)) (a b : Nat) : V true U D [a, b] 3 = upC U (giveR D [a, b]) ||| upC U (giveR D [b, a]) := by
  obtain ⟨h1, h2⟩ := lefts_three
  rw [V_more true U D _ h2, h1, upC_orL]
  have e1 : V true U D [a, b] 1 = a := V_one true U D [a, b] (i := 0) (by decide)
  have e2 : V true U D [a, b] 2 = b := V_one true U D [a, b] (i := 1) (by decide)
  show (0 ||| upC U (giveR D [V true U D [a, b] 2, V true U D [a, b] (rest 3 2)])) ||| upC U (giveR D [V true U D [a, b] 1, V true U D [a, b] (rest 3 1)]) = _
  rw [show rest 3 2 = 1 from rfl, show rest 3 1 = 2 from rfl, e1, e2, Nat.zero_or, Nat.or_comm]
theorem V_pair (U : List Nat) (D : List (List Int × Int)) (a b : Nat) : V false U D [a, b] 3 = upC U (giveR D [a, b]) := by
  have h := chainTo_all U D [a, b] (i := 0) (j := 1) (by decide) (by decide)
  rw [show iv 0 1 = 3 from rfl] at h
  rw [← h, show (1 - 0 : Nat) = 0 + 1 from rfl, chainTo_succ]
  have e1 : V false U D [a, b] 1 = a := V_one false U D [a, b] (i := 0) (by decide)
  have e2 : V false U D [a, b] 2 = b := V_one false U D [a, b] (i := 1) (by decide)
  show 0 ||| upC U (giveR D [V false U D [a, b] 1, V false U D [a, b] 2]) = _
  rw [e1, e2, Nat.zero_or]
theorem sortsA_lt {U : List Nat} (hU : Lim U) (D : List (List Int × Int)) (ass com : Bool) {A : List Nat} (hA : ∀ i, A.getD i 0 < 2 ^ U.length) : sortsA U D ass com A < 2 ^ U.length := by
  unfold sortsA
  split
  · exact V_lt com U D A hU hA _
  · exact upC_lt hU _
end Go.Proofs.YtjejdcehlckfhaaGreat.tsm
/-
  THE PROGRAM's FUNCTIONS OF THE SORTS OF TERMS: isBefore, upward, haveSorts, the results of declarations.
-/
namespace Go.Proofs.YtjejdcehlckfhaaGreat.tsi
open Go.ChangeShapes Go.WideShapes Go.ChangeAt Go.RowKit
open mem split strl subs sortn setm sets sortm sortp sorti rowl sigm sigs tsm

/-- a list of sets as cells -/
def u16s (A : List Nat) : List Value := A.map fun (a : Nat) => Value.int .u16 (a : Int)
theorem u16s_len (A : List Nat) : (u16s A).length = A.length := by simp [u16s]
theorem u16s_get (A : List Nat) (k : Nat) (h : k < A.length) : (u16s A).getD k undef = .int .u16 ((A.getD k 0 : Nat) : Int) := by
  simp [u16s, List.getD, List.getElem?_map, List.getElem?_eq_getElem h]
theorem u16s_snoc (A : List Nat) (a : Nat) : u16s (A ++ [a]) = u16s A ++ [.int .u16 (a : Int)] := by simp [u16s]
/-- numberSet.isBefore -/
theorem nbefore_any (s t : Nat) (_hs : s < 65536) (ht : t < 65536) (r : Bool) (hr : befo s t = r) (w : World) :
    Calls Tryz.prog 215 #[.int .u16 (s : Int), .int .u16 (t : Int)] w fun e w' => e = .returned (.bool r) ∧ w = w' := by
  subst hr
  have H : Hid (decide ((s : Int) < bits .and .u16 (t : Int) (IntKind.u16.wrap (-(t : Int)))) = befo s t) := Lib.hid (by
    have e : IntKind.u16.wrap (-(t : Int)) = (((65536 - t) % 65536 : Nat) : Int) := by
      simp [IntKind.wrap, IntKind.bits, IntKind.signed]; omega
    rw [e, and_u16 t _ ht (by omega), befo, decide_eq_decide]
    by_cases h0 : t = 0
    · subst h0; simp
    · rw [Nat.mod_eq_of_lt (by omega)]; omega)
  go_enter Tryz.func215, Tryz.ntmps215
  go_wp2
  go_ret
  exact ⟨ret_bool (by rw [← H.out]; try simp), rfl⟩
theorem upL_snoc (U : List Nat) (L : List Nat) (k : Nat) : orL (fun k => U.getD k 0) (L ++ [k]) = orL (fun k => U.getD k 0) L ||| U.getD k 0 := orL_snoc _ _ _
/-- sortSets.upward -/
theorem upward_any (U : List Nat) (hU : Lim U) (S : Nat) (hS : S < 65536) (v : Value) (w : World) (hM : MapU w v U) :
    Calls Tryz.prog 150 #[v, .int .u16 (S : Int)] w fun e w' => e = .returned (.int .u16 ((upC U S : Nat) : Int)) ∧ Below w.heap.size w w' := by
  have HE := Lib.hid (fun W => nels_any S hS W)
  have HM := Lib.hid hM
  have HU := Lib.hid hU
  have HLL := Lib.hid (fun L => Nat.lt_of_lt_of_le (orL_lt (fun k => U.getD k 0) L U.length (fun k _ => hU.2 k)) (Nat.le_trans (pow8 hU.1) (by decide : 256 ≤ 65536)))
  have HT := Lib.hid (fun j (h : j < (els S).length) => takeN (els S) j h)
  have HEL := Lib.hid (fun j (h : j < (els S).length) => els_lt h)
  have HEN := Lib.hid (elsTo_len S 16)
  rw [show elsTo S 16 = els S from rfl] at HEN
  unfold upC
  obtain ⟨E, hE⟩ : ∃ E, E = els S := ⟨_, rfl⟩
  rw [← hE] at HE HT HEL HEN ⊢
  obtain ⟨m, hm⟩ : ∃ m, m = E.length := ⟨_, rfl⟩
  rw [← hm] at HE HT HEL HEN
  have hm16 : m ≤ 16 := HEN.out
  have HMM := Lib.hid hm
  clear hM hU hE hm
  go_enter Tryz.func150, Tryz.ntmps150
  go_wp2_with (go_at_call 49; refine (HE.out _).mono ?_; rintro e w1 ⟨ev, rfl, hown, hb1⟩; obtain ⟨A, c, rfl, hh⟩ := (Has.of_own hown).shape (n := m) (by rw [ivs_len]; simp [nats]; exact HMM.out.symm); have HH := Lib.hid hh; clear hown hh)
  go_loop [5, 11] (fun s i => ∃ j : Nat, j ≤ m ∧ i = .int .i64 j ∧ s = .int .u16 ((orL (fun k => U.getD k 0) (E.take j) : Nat) : Int)) (fun _ i => m - (intOf i).toNat)
  case atStart => exact ⟨0, Nat.zero_le _, rfl, rfl⟩
  case round =>
    obtain ⟨j, hj, rfl, rfl⟩ := hrel
    by_cases hlt : j < m
    · obtain ⟨g, o, rfl, hg, hcell⟩ := HH.out.cellAt hlt
      rw [ivs_get _ j (by simp [nats]; have := HMM.out; omega), nats_get] at hcell
      have hk := HEL.out j hlt
      have hsn := upL_snoc U (E.take j) (E.getD j 0)
      rw [← HT.out j hlt] at hsn
      have hLl := HLL.out (E.take j)
      obtain ⟨k, hkk⟩ : ∃ k, k = E.getD j 0 := ⟨_, rfl⟩
      rw [← hkk] at hcell hk hsn
      have k1 := (HM.out.below hb1).look (x := (k : Int)) (by omega) (by omega)
      rw [atU_nat] at k1
      have hUk := HU.out.lt k
      obtain ⟨G, hG⟩ : ∃ G, G = orL (fun k => U.getD k 0) (E.take j) := ⟨_, rfl⟩
      rw [← hG] at hsn hLl ⊢
      obtain ⟨u, hu⟩ : ∃ u, u = U.getD k 0 := ⟨_, rfl⟩
      rw [← hu] at k1 hUk hsn
      have a1 := or_u16 G u hLl hUk
      have HSN := Lib.hid hsn
      clear hkk hG hu hsn
      go_wp2
      go_round
      case rel => exact ⟨j + 1, by omega, by go_num, by rw [HSN.out]⟩
      case measure => simp [intOf]; omega
    · obtain rfl : j = m := by omega
      have HTT : Hid (E.take j = E) := Lib.hid (by rw [HMM.out, List.take_length])
      rw [HTT.out]
      go_wp2
      go_ret
      exact ⟨rfl, hb1⟩
/-- haveSorts -/
theorem haveSorts_any (A : List Nat) (d : List Int) (hA : ∀ i, A.getD i 0 < 65536) (hd : ∀ k, k < d.length → 0 ≤ d.getD k 0 ∧ d.getD k 0 < 16) (hl : d.length ≤ A.length) (va vd : Value) (r : Bool) (hr : fitD A d = r) (w : World) (h1 : Has w va (u16s A)) (h2 : Has w vd (ivs d)) :
    Calls Tryz.prog 186 #[va, vd] w fun e w' => e = .returned (.bool r) ∧ w = w' := by
  obtain ⟨m, hm⟩ : ∃ m, m = d.length := ⟨_, rfl⟩
  obtain ⟨p, hp⟩ : ∃ p, p = A.length := ⟨_, rfl⟩
  obtain ⟨Aa, ca, rfl, h1⟩ := h1.shape (n := p) (by rw [u16s_len, hp])
  obtain ⟨Ad, cd, rfl, h2⟩ := h2.shape (n := m) (by rw [ivs_len, hm])
  have hla := h1.len.2
  have hld := h2.len.2
  rw [← hm, ← hp] at hl
  rw [← hm] at hd
  have H1 := Lib.hid h1
  have H2 := Lib.hid h2
  have HR := Lib.hid hr
  have HM := Lib.hid hm
  have HP := Lib.hid hp
  have HA := Lib.hid hA
  have HD := Lib.hid hd
  clear h1 h2 hr hm hp hA hd
  go_enter Tryz.func186, Tryz.ntmps186
  go_wp2
  go_loop [5, 6, 9] (fun _ _ i => ∃ k : Nat, k ≤ m ∧ i = .int .i64 k ∧ Hid (fitTo A d k = true)) (fun _ _ i => m - (intOf i).toNat)
  case atStart => exact ⟨0, Nat.zero_le _, rfl, Lib.hid rfl⟩
  case round =>
    obtain ⟨k, hk, rfl, HF⟩ := hrel
    by_cases hlt : k < m
    · obtain ⟨g, o, rfl, hg, hcell⟩ := H2.out.cellAt hlt
      rw [ivs_get _ k (by have := HM.out; omega)] at hcell
      obtain ⟨g2, o2, rfl, hg2, hcell2⟩ := H1.out.cellAt (show k < p by omega)
      rw [u16s_get _ k (by have := HP.out; omega)] at hcell2
      have hd0 := HD.out k hlt
      have ha0 := HA.out k
      have HS := Lib.hid (fitTo_succ A d k)
      have HN : Hid ((A.getD k 0).testBit (d.getD k 0).toNat = false → fitD A d = false) := Lib.hid (fun h => fitTo_no (by have := HM.out; omega) h)
      obtain ⟨x, hx⟩ : ∃ x, x = d.getD k 0 := ⟨_, rfl⟩
      rw [← hx] at hcell hd0 HS HN
      obtain ⟨a, ha⟩ : ∃ a, a = A.getD k 0 := ⟨_, rfl⟩
      rw [← ha] at hcell2 ha0 HS HN
      obtain ⟨j, rfl⟩ : ∃ j : Nat, x = (j : Int) := ⟨x.toNat, by omega⟩
      rw [Int.toNat_natCast] at HS HN
      have hj16 : j < 16 := by omega
      clear hx ha
      have i1 : (0 : Int) ≤ (k : Int) := by omega
      have i2 : (k : Int) < (p : Int) := by omega
      have i3 : (k : Int) < (m : Int) := by omega
      cases hb : a.testBit j with
      | true =>
        have HC := Lib.hid (fun W => nhas_any a j ha0 hj16 true hb W)
        have HF2 : Hid (fitTo A d (k + 1) = true) := Lib.hid (by rw [HS.out, HF.out, hb]; rfl)
        clear hb
        go_wp2_with (go_at_call 97; refine (HC.out _).mono ?_; rintro e w1 ⟨rfl, rfl⟩)
        go_round
        case rel => exact ⟨k + 1, by omega, by go_num, HF2⟩
        case measure => simp [intOf]; omega
      | false =>
        have HC := Lib.hid (fun W => nhas_any a j ha0 hj16 false hb W)
        have HQ : Hid (r = false) := Lib.hid (by rw [← HR.out, HN.out hb])
        clear hb
        go_wp2_with (go_at_call 97; refine (HC.out _).mono ?_; rintro e w1 ⟨rfl, rfl⟩)
        go_ret
        exact ⟨ret_bool HQ.out.symm, rfl⟩
    · obtain rfl : k = m := by omega
      have HQ : Hid (r = true) := Lib.hid (by rw [← HR.out, fitD, ← HM.out, HF.out])
      go_wp2
      go_ret
      exact ⟨ret_bool HQ.out.symm, rfl⟩
end Go.Proofs.YtjejdcehlckfhaaGreat.tsi
/-
  THE PROGRAM's FUNCTIONS OF THE SORTS OF TERMS: what the declarations of an operator give.
-/
namespace Go.Proofs.YtjejdcehlckfhaaGreat.tsj
open Go.ChangeShapes Go.WideShapes Go.ChangeAt Go.RowKit
open mem split strl subs sortn setm sets sortm sortp sorti rowl sigm sigs gramo tsm tsi

theorem DeclN.at {n m : Nat} {D : List (List Int × Int)} (h : DeclN n m D) {k : Nat} (hk : k < D.length) : (D.getD k ([], 0)).1.length = m ∧ (0 ≤ (D.getD k ([], 0)).2 ∧ (D.getD k ([], 0)).2 < n) ∧ ∀ j, j < m → 0 ≤ (D.getD k ([], 0)).1.getD j 0 ∧ (D.getD k ([], 0)).1.getD j 0 < n := by
  have hm : D.getD k ([], 0) ∈ D := by rw [List.getD_eq_getElem?_getD, List.getElem?_eq_getElem hk]; exact List.getElem_mem _
  obtain ⟨h1, h2, h3⟩ := h _ hm
  simp only [inN, decide_eq_true_eq] at h2 h3
  exact ⟨h1, h2, h3⟩
set_option maxRecDepth 20000 in
set_option maxHeartbeats 2000000 in
/-- operator.results -/
theorem opResults_any {n m : Nat} (hn : n ≤ 8) (nm : List UInt8) (Ad : Option Addr) (dn cd : Nat) (a b : Bool) (u : Int) (i s0 s1 s2 s3 s4 : Nat) (D : List (List Int × Int)) (A : List Nat) (va : Value) (w : World) (hD : HasD 0 w (.slice Ad dn cd) D) (hDN : DeclN n m D) (hm : m ≤ A.length) (hA : ∀ i, A.getD i 0 < 65536) (h1 : Has w va (u16s A)) :
    Calls Tryz.prog 151 #[aggE nm Ad dn cd a b u i s0 s1 s2 s3 s4, va] w fun e w' => e = .returned (.int .u16 ((giveR D A : Nat) : Int)) ∧ Below w.heap.size w w' := by
  obtain ⟨Aa, ca, rfl, h1⟩ := h1.shape (n := A.length) (u16s_len A)
  have hla := h1.len.2
  have hdl := hD.len
  have HD := Lib.hid hD
  have HA := Lib.hid h1
  have HDN := Lib.hid hDN
  have hpn := pow8 hn
  have HLT := Lib.hid (fun k => giveR_lt (hDN.take k) A)
  have HA2 := Lib.hid hA
  have HDL := Lib.hid hdl.1
  have hdn := hdl.2.1
  have HFIT := Lib.hid (fun (d : List Int) (vd : Value) r (hl : d.length ≤ A.length) (hd : ∀ k, k < d.length → 0 ≤ d.getD k 0 ∧ d.getD k 0 < 16) (hr : fitD A d = r) W (hW : Below w.heap.size w W) (h2 : Has W vd (ivs d)) => haveSorts_any A d hA hd hl _ vd r hr W (h1.below (Nat.le_refl _) hW) h2)
  obtain ⟨p, hp⟩ : ∃ p, p = A.length := ⟨_, rfl⟩
  rw [← hp] at HFIT hla hm ⊢
  clear hD h1 hDN hA hdl hp
  go_enter Tryz.func151, Tryz.ntmps151
  go_wp2
  go_loopw [5, 7, 12] (fun s _ i wr => ∃ k : Nat, k ≤ dn ∧ i = .int .i64 k ∧ s = .int .u16 ((giveR (D.take k) A : Nat) : Int) ∧ Hid (Below w.heap.size w wr)) (fun _ _ i _ => dn - (intOf i).toNat)
  case atStart => exact ⟨0, Nat.zero_le _, rfl, rfl, Lib.hid ((Below.refl _ _).alloc (Nat.le_refl _) _)⟩
  case round =>
    obtain ⟨k, hk, rfl, rfl, HB⟩ := hrel
    have hsz := HB.out.size
    by_cases hlt : k < dn
    · obtain ⟨g, o, A2, c2, rfl, _, hg, hc0, hc1, hh, _, _⟩ := decl_at HD.out hlt
      have hkD : k < D.length := by have := HDL.out; omega
      obtain ⟨q1, q2, q3⟩ := DeclN.at HDN.out hkD
      have hc0' := (HB.out.cell (p := ⟨g, o + k * 2, none⟩) hg).trans hc0
      have hc1' := (HB.out.cell (p := ⟨g, o + k * 2 + 1, none⟩) hg).trans hc1
      have HH := Lib.hid hh.has
      have HHIT := Lib.hid (fun h => give_hit (A := A) hkD h)
      have HMISS := Lib.hid (fun h => give_miss (A := A) hkD h)
      have hGl := HLT.out k
      rw [show (D.getD k default) = D.getD k ([], 0) from rfl] at hc0' hc1' HH
      obtain ⟨d, hd⟩ : ∃ d, d = (D.getD k ([], 0)).1 := ⟨_, rfl⟩
      obtain ⟨x, hx⟩ : ∃ x, x = (D.getD k ([], 0)).2 := ⟨_, rfl⟩
      rw [← hd] at hc0' q1 q3 HHIT HMISS HH
      rw [← hx] at hc1' q2 HHIT
      obtain ⟨j, rfl⟩ : ∃ j : Nat, x = (j : Int) := ⟨x.toNat, by omega⟩
      rw [Int.toNat_natCast] at HHIT
      have hj : j < 16 := by omega
      obtain ⟨G, hG⟩ : ∃ G, G = giveR (D.take k) A := ⟨_, rfl⟩
      rw [← hG] at HHIT HMISS hGl ⊢
      have hG16 : G < 65536 := by omega
      have HWI := Lib.hid (fun W => nwith_any G j hG16 hj W)
      obtain ⟨md, hmd⟩ : ∃ md, md = d.length := ⟨_, rfl⟩
      rw [← hmd] at hc0' HH
      have HC := Lib.hid (fun r hr W (hW : Below w.heap.size w W) => HFIT.out d _ r (by omega) (fun k hk => by have := q3 k (by omega); omega) hr W hW (HH.out.below (Nat.le_refl _) hW))
      have hq : ∀ ob : Obj, Below w.heap.size w (wr.alloc ob) := fun ob => HB.out.alloc hsz ob
      have HQ := Lib.hid hq
      clear hc0 hc1 hh hd hx hG q1 q2 q3 hG16 hGl hmd hq
      cases hf : fitD A d with
      | true =>
        have HC2 := Lib.hid (HC.out true hf)
        have HE := Lib.hid (HHIT.out hf)
        clear hf
        go_wp2_with (first | (go_at_call 186; refine (HC2.out _ (HQ.out _)).mono ?_; rintro e w2 ⟨rfl, rfl⟩) | (go_at_call 95; refine (HWI.out _).mono ?_; rintro e w3 ⟨rfl, rfl⟩))
        go_roundw
        case rel => exact ⟨k + 1, by omega, by go_num, by rw [HE.out], Lib.hid (HQ.out _)⟩
        case measure => simp [intOf]; omega
      | false =>
        have HC2 := Lib.hid (HC.out false hf)
        have HE := Lib.hid (HMISS.out hf)
        clear hf
        go_wp2_with (first | (go_at_call 186; refine (HC2.out _ (HQ.out _)).mono ?_; rintro e w2 ⟨rfl, rfl⟩))
        go_roundw
        case rel => exact ⟨k + 1, by omega, by go_num, by rw [HE.out], Lib.hid (HQ.out _)⟩
        case measure => simp [intOf]; omega
    · obtain rfl : k = dn := by omega
      have HTT : Hid (D.take k = D) := Lib.hid (by rw [HDL.out, List.take_length])
      rw [HTT.out]
      go_wp2
      go_ret
      exact ⟨rfl, HB.out⟩
end Go.Proofs.YtjejdcehlckfhaaGreat.tsj
/-
  THE PROGRAM's FUNCTIONS OF THE SORTS OF TERMS: what all ways to take a group of arguments apart give.
-/
namespace Go.Proofs.YtjejdcehlckfhaaGreat.tsk
open Go.ChangeShapes Go.WideShapes Go.ChangeAt Go.RowKit
open mem split strl subs sortn setm sets sortm sortp sorti rowl sigm sigs gramo tsm tsi tsj

/-- an array of 128 sets -/
def ArrF (w : World) (b : Nat) (f : Nat → Nat) : Prop := b < w.heap.size ∧ ∀ x, x < 128 → w.cell? ⟨b, x, none⟩ = some (.int .u16 ((f x : Nat) : Int)) ∧ w.frozen? ⟨b, x, none⟩ = false
theorem ArrF.below {w w' : World} {b : Nat} {f : Nat → Nat} (h : ArrF w b f) {B : Nat} (hB : b < B) (hb : Below B w w') : ArrF w' b f :=
  ⟨Nat.lt_of_lt_of_le h.1 hb.size, fun x hx => ⟨(hb.cell (p := ⟨b, x, none⟩) hB).trans (h.2 x hx).1, (hb.frozen (p := ⟨b, x, none⟩) hB).trans (h.2 x hx).2⟩⟩
abbrev C11 (x : Nat) (nm : List UInt8) (A : Option Addr) (n c : Nat) (a b : Bool) (u : Int) (i s0 s1 s2 s3 s4 : Nat) (w : World) : Prop :=
  w.cell? ⟨x, 0, none⟩ = some (.string (bstr nm)) ∧ w.cell? ⟨x, 1, none⟩ = some (.slice A n c) ∧ w.cell? ⟨x, 2, none⟩ = some (.bool a) ∧ w.cell? ⟨x, 3, none⟩ = some (.bool b) ∧ w.cell? ⟨x, 4, none⟩ = some (.int .i64 u) ∧ w.cell? ⟨x, 5, none⟩ = some (.int .i64 (i : Int)) ∧
  w.cell? ⟨x, 6, none⟩ = some (.int .i64 (s0 : Int)) ∧ w.cell? ⟨x, 7, none⟩ = some (.int .u16 (s1 : Int)) ∧ w.cell? ⟨x, 8, none⟩ = some (.int .u16 (s2 : Int)) ∧ w.cell? ⟨x, 9, none⟩ = some (.int .u16 (s3 : Int)) ∧ w.cell? ⟨x, 10, none⟩ = some (.int .u16 (s4 : Int))
theorem C11.below {x : Nat} {nm : List UInt8} {A : Option Addr} {n c : Nat} {a b : Bool} {u : Int} {i s0 s1 s2 s3 s4 : Nat} {w w' : World} (h : C11 x nm A n c a b u i s0 s1 s2 s3 s4 w) (hb : Below w.heap.size w w') : C11 x nm A n c a b u i s0 s1 s2 s3 s4 w' := by
  have hx : x < w.heap.size := block_lt_of_cell h.1
  have k : ∀ y, w'.cell? ⟨x, y, none⟩ = w.cell? ⟨x, y, none⟩ := fun y => hb.cell (p := ⟨x, y, none⟩) hx
  unfold C11
  rw [k, k, k, k, k, k, k, k, k, k, k]
  exact h
abbrev SGrp (x bl l r : Nat) (nm : List UInt8) (A : Option Addr) (n c : Nat) (a b : Bool) (u : Int) (i s0 s1 s2 s3 s4 : Nat) (fl fr : Nat) (W w : World) : Prop :=
  (C11 x nm A n c a b u i s0 s1 s2 s3 s4 w ∧ w.cell? ⟨bl, l, none⟩ = some (.int .u16 (fl : Int)) ∧ w.cell? ⟨bl, r, none⟩ = some (.int .u16 (fr : Int))) ∧ Below W.heap.size W w
theorem SGrp.of {x bl l r : Nat} {nm : List UInt8} {A : Option Addr} {n c : Nat} {a b : Bool} {u : Int} {i s0 s1 s2 s3 s4 fl fr : Nat} {W w : World} (h : C11 x nm A n c a b u i s0 s1 s2 s3 s4 W) (h1 : W.cell? ⟨bl, l, none⟩ = some (.int .u16 (fl : Int))) (h2 : W.cell? ⟨bl, r, none⟩ = some (.int .u16 (fr : Int))) (hb : Below W.heap.size W w) : SGrp x bl l r nm A n c a b u i s0 s1 s2 s3 s4 fl fr W w :=
  ⟨⟨C11.below h hb, (hb.cell (p := ⟨bl, l, none⟩) (block_lt_of_cell h1)).trans h1, (hb.cell (p := ⟨bl, r, none⟩) (block_lt_of_cell h2)).trans h2⟩, hb⟩

/-- what one part and the rest give -/
def givP (com : Bool) (D : List (List Int × Int)) (f : Nat → Nat) (g l : Nat) : Nat := if com || befo l (rest g l) then giveR D [f l, f (rest g l)] else 0
theorem givP_all (com : Bool) (D : List (List Int × Int)) (f : Nat → Nat) (g : Nat) : orL (givP com D f g) (lefts g) = orL (fun l => giveR D [f l, f (rest g l)]) (leftsC com g) := by
  apply Nat.eq_of_testBit_eq
  intro j
  rw [orL_bit, orL_bit, leftsC, List.any_filter, Bool.eq_iff_iff, List.any_eq_true, List.any_eq_true]
  constructor
  · rintro ⟨l, hl, e⟩
    refine ⟨l, hl, ?_⟩
    unfold givP at e
    split at e
    · rename_i hc; rw [hc, e]; rfl
    · rw [Nat.zero_testBit] at e; cases e
  · rintro ⟨l, hl, e⟩
    refine ⟨l, hl, ?_⟩
    rw [Bool.and_eq_true] at e
    rw [givP, if_pos e.1]
    exact e.2
theorem orL_cons {α : Type} (f : α → Nat) (x : α) (L : List α) : orL f (x :: L) = f x ||| orL f L := by
  apply Nat.eq_of_testBit_eq
  intro j
  rw [Nat.testBit_or, orL_bit, orL_bit, List.any_cons]
theorem u16_lit2 (w : World) (x y : Nat) : Has (w.alloc (.cells #[.int .u16 (x : Int), .int .u16 (y : Int)] 75)) (.slice (some ⟨w.heap.size, 0, none⟩) 2 2) (u16s [x, y]) := by
  refine ⟨_, 2, rfl, by simp [u16s], by unfold maxLen; omega, fun j v hv => ⟨w.heap.size, 0, rfl, by simp, ?_⟩⟩
  match j, hv with
  | 0, hv => simp [u16s] at hv; subst hv; simp
  | 1, hv => simp [u16s] at hv; subst hv; simp
set_option maxRecDepth 20000 in
set_option maxHeartbeats 4000000 in
/-- groupSorts.results -/
theorem grpResults_any {n : Nat} (hn : n ≤ 8) (nm : List UInt8) (Ad : Option Addr) (dn cd : Nat) (a com : Bool) (u : Int) (i s0 s1 s2 s3 s4 : Nat) (D : List (List Int × Int)) (g : Nat) (h0 : 0 < g) (hg : g < 128) (f : Nat → Nat) (hf : ∀ x, f x < 65536) (bl : Nat) (w : World) (hA : ArrF w bl f) (hD : HasD 0 w (.slice Ad dn cd) D) (hDN : DeclN n 2 D) :
    Calls Tryz.prog 185 #[.pointer (some ⟨bl, 0, none⟩), aggE nm Ad dn cd a com u i s0 s1 s2 s3 s4, .int .u16 (g : Int)] w fun e w' => e = .returned (.int .u16 ((orL (fun l => giveR D [f l, f (rest g l)]) (leftsC com g) : Nat) : Int)) ∧ Below w.heap.size w w' := by
  rw [← givP_all]
  have hpn := pow8 hn
  have HPL := Lib.hid (fun l => show givP com D f g l < 256 by
    unfold givP
    split
    · exact Nat.lt_of_lt_of_le (giveR_lt hDN _) hpn
    · decide)
  have HOR := Lib.hid (fun l W (hW : Below w.heap.size w W) va (h1 : Has W va (u16s [f l, f (rest g l)])) => opResults_any hn nm Ad dn cd a com u i s0 s1 s2 s3 s4 D [f l, f (rest g l)] va W (hD.below RD_steady (Nat.le_refl _) hW) hDN (Nat.le_refl _) (fun i => by
    match i with
    | 0 => exact hf _
    | 1 => exact hf _
    | i + 2 => simp) h1)
  have HAR := Lib.hid (fun W (hW : Below w.heap.size w W) => hA.below hA.1 hW)
  have HLF := Lib.hid (lefts_from g)
  have hbl := hA.1
  obtain ⟨W, hW⟩ : ∃ W, W = w.alloc (.cells #[.string (bstr nm), .slice Ad dn cd, .bool a, .bool com, .int .i64 u, .int .i64 (i : Int), .int .i64 (s0 : Int), .int .u16 (s1 : Int), .int .u16 (s2 : Int), .int .u16 (s3 : Int), .int .u16 (s4 : Int)] 102) := ⟨_, rfl⟩
  have hb0 : Below w.heap.size w W := by rw [hW]; exact (Below.refl _ _).alloc (Nat.le_refl _) _
  have hX0 : C11 w.heap.size nm Ad dn cd a com u i s0 s1 s2 s3 s4 W := by
    rw [hW]
    refine ⟨?_, ?_, ?_, ?_, ?_, ?_, ?_, ?_, ?_, ?_, ?_⟩ <;> simp
  have HB0 := Lib.hid hb0
  have HX0 := Lib.hid hX0
  have hs1 : bits .and .u16 ((g : Int) - 1) (g : Int) = (((g - 1) &&& g : Nat) : Int) := by
    have := and_u16 (g - 1) g (by omega) (by omega)
    rw [show (((g - 1 : Nat)) : Int) = (g : Int) - 1 by omega] at this
    exact this
  have hw1 : IntKind.u16.wrap ((g : Int) - 1) = (g : Int) - 1 := wraps_u16 _ (by omega) (by omega)
  have hfst : g &&& ((g - 1) &&& g) = (g - 1) &&& g := by rw [Nat.and_comm (g - 1) g, ← Nat.and_assoc, Nat.and_self]
  have hle : (g - 1) &&& g ≤ g - 1 := Nat.and_le_left
  have HFST := Lib.hid (And.intro hfst hle)
  obtain ⟨T, hT⟩ : ∃ T, T = orL (givP com D f g) (lefts g) := ⟨_, rfl⟩
  have HT := Lib.hid hT
  rw [← hT]
  obtain ⟨l0, hl0⟩ : ∃ l0, l0 = (g - 1) &&& g := ⟨_, rfl⟩
  rw [← hl0] at HLF hs1 HFST
  clear hA hD hDN hf hb0 hX0 hfst hle hT hl0
  go_enter Tryz.func185, Tryz.ntmps185
  go_wp2
  rw [← hW]
  clear hW
  go_loopw [7, 8, 9] (fun s v8 _ wr => ∃ acc l : Nat, s = .int .u16 (acc : Int) ∧ v8 = .int .u16 (l : Int) ∧ acc < 256 ∧ l < g ∧ Hid (g &&& l = l ∧ acc ||| orL (givP com D f g) (leftsFrom g l) = T) ∧ Hid (Below W.heap.size W wr)) (fun _ v _ _ => (intOf v).toNat)
  case atStart => exact ⟨0, l0, rfl, rfl, by decide, by have := HFST.out.2; omega, Lib.hid ⟨HFST.out.1, by rw [Nat.zero_or, ← HLF.out, ← HT.out]⟩, Lib.hid (Below.refl _ _)⟩
  case round =>
    obtain ⟨acc, l, rfl, rfl, hac, hlg, HI, HB⟩ := hrel
    have hsz := HB.out.size
    by_cases hl0 : l = 0
    · subst hl0
      have HQ : Hid (acc = T) := Lib.hid (by have := HI.out.2; rw [leftsFrom_zero] at this; simpa [orL] using this)
      go_wp2
      go_ret
      exact ⟨ret_int (by rw [HQ.out]), HB0.out.trans (HB.out.mono HB0.out.size)⟩
    · have hr1 := rest_lt HI.out.1 (by omega)
      have hr2 := rest_pos HI.out.1 hlg
      have han : bits .andNot .u16 (g : Int) (l : Int) = ((rest g l : Nat) : Int) := by rw [andNot_u16 g l (by omega) (by omega), rest_sub HI.out.1]; rfl
      have hs2 : bits .and .u16 ((l : Int) - 1) (g : Int) = (((l - 1) &&& g : Nat) : Int) := by
        have := and_u16 (l - 1) g (by omega) (by omega)
        rw [show (((l - 1 : Nat)) : Int) = (l : Int) - 1 by omega] at this
        exact this
      have hw2 : IntKind.u16.wrap ((l : Int) - 1) = (l : Int) - 1 := wraps_u16 _ (by omega) (by omega)
      have hle : (l - 1) &&& g ≤ l - 1 := Nat.and_le_left
      have HN : Hid (g &&& ((l - 1) &&& g) = (l - 1) &&& g ∧ (acc ||| givP com D f g l) ||| orL (givP com D f g) (leftsFrom g ((l - 1) &&& g)) = T) := Lib.hid ⟨by rw [Nat.and_comm (l - 1) g, ← Nat.and_assoc, Nat.and_self], by
        have := HI.out.2
        rw [leftsFrom_cons g l hl0, orL_cons] at this
        rw [Nat.or_assoc]; exact this⟩
      have HPV : Hid (givP com D f g l = if com || befo l (rest g l) then giveR D [f l, f (rest g l)] else 0) := Lib.hid rfl
      have hp := HPL.out l
      obtain ⟨l2, hl2⟩ : ∃ l2, l2 = (l - 1) &&& g := ⟨_, rfl⟩
      rw [← hl2] at hs2 hle HN
      have hbw := HB0.out.trans (HB.out.mono HB0.out.size)
      have HBW := Lib.hid hbw
      obtain ⟨q1, q2⟩ := (HAR.out wr hbw).2 l (by omega)
      obtain ⟨q3, q4⟩ := (HAR.out wr hbw).2 (rest g l) (by omega)
      have HOP := Lib.hid (HOR.out l)
      have HBF := Lib.hid (fun r hr W => nbefore_any l (rest g l) (by omega) (by omega) r hr W)
      obtain ⟨rr, hrr⟩ : ∃ rr, rr = rest g l := ⟨_, rfl⟩
      rw [← hrr] at hr1 hr2 han q3 q4 HOP HBF HPV
      obtain ⟨fl, hfl⟩ : ∃ q, q = f l := ⟨_, rfl⟩
      obtain ⟨fr, hfr⟩ : ∃ q, q = f rr := ⟨_, rfl⟩
      rw [← hfl] at q1
      rw [← hfr] at q3
      rw [← hfl, ← hfr] at HOP HPV
      obtain ⟨pv, hpv⟩ : ∃ q, q = givP com D f g l := ⟨_, rfl⟩
      rw [← hpv] at HN hp HPV
      obtain ⟨gv, hgv⟩ : ∃ q, q = giveR D [fl, fr] := ⟨_, rfl⟩
      rw [← hgv] at HOP HPV
      have HX := Lib.hid (C11.below HX0.out HB.out)
      have ho16 : acc ||| pv < 256 := Nat.or_lt_two_pow (n := 8) hac hp
      have hor := or_u16 acc pv (by omega) (by omega)
      clear hl2 hrr hfl hfr hpv hgv hbw q2 q4
      have hmid : ∀ ob, Below wr.heap.size wr (wr.alloc ob).drew := fun ob => ((Below.refl _ _).alloc (Nat.le_refl _) ob).drew
      have i1 : (0 : Int) ≤ (l : Int) := by omega
      have i2 : (l : Int) < 128 := by omega
      have i3 : (0 : Int) ≤ (rr : Int) := by omega
      have i4 : (rr : Int) < 128 := by omega
      have HMID := Lib.hid hmid
      clear hmid
      by_cases hc : (com || befo l rr) = true
      · have HG : Hid (pv = gv) := Lib.hid (by rw [HPV.out, if_pos hc])
        rw [HG.out] at hor ho16
        have HN2 : Hid (g &&& l2 = l2 ∧ (acc ||| gv) ||| orL (givP com D f g) (leftsFrom g l2) = T) := Lib.hid (by rw [← HG.out]; exact HN.out)
        obtain ⟨y0, y1, y2, y3, y4, y5, y6, y7, y8, y9, y10⟩ := HX.out
        cases hcom : com with
        | true =>
          subst hcom
          clear hc
          go_wp2_with fail
          go_region_held3 (SGrp w.heap.size bl l rr nm Ad dn cd a true u i s0 s1 s2 s3 s4 fl fr wr)
            (exact SGrp.of HX.out q1 q3 (by first | exact (Below.refl _ _).drew | exact HMID.out _ | assumption))
            ((go_at_call 151; refine (HOP.out _ (HBW.out.trans ((HMID.out _).mono HBW.out.size)) _ (u16_lit2 _ fl fr)).mono ?_; rintro e w1 ⟨rfl, hb1⟩; have hb1' := (HMID.out (.cells #[.int .u16 (fl : Int), .int .u16 (fr : Int)] 75)).trans (hb1.mono (HMID.out _).size); clear hb1))
          go_wp2
          have HB6 : Hid (Below W.heap.size W w1) := Lib.hid (HB.out.trans (Below.mono (by go_split_ands; assumption) hsz))
          go_roundw
          case rel => exact ⟨acc ||| gv, l2, by rw [← hor], rfl, ho16, by omega, HN2, HB6⟩
          case measure => simp [intOf]; omega
        | false =>
          subst hcom
          have HBE := Lib.hid (HBF.out true (by simpa using hc))
          clear hc
          go_wp2_with (go_at_call 215; refine (HBE.out _).mono ?_; rintro e w0 ⟨rfl, rfl⟩)
          go_region_held3 (SGrp w.heap.size bl l rr nm Ad dn cd a false u i s0 s1 s2 s3 s4 fl fr wr)
            (exact SGrp.of HX.out q1 q3 (by first | exact (Below.refl _ _).drew | exact HMID.out _ | assumption))
            ((go_at_call 151; refine (HOP.out _ (HBW.out.trans ((HMID.out _).mono HBW.out.size)) _ (u16_lit2 _ fl fr)).mono ?_; rintro e w1 ⟨rfl, hb1⟩; have hb1' := (HMID.out (.cells #[.int .u16 (fl : Int), .int .u16 (fr : Int)] 75)).trans (hb1.mono (HMID.out _).size); clear hb1))
          go_wp2
          have HB6 : Hid (Below W.heap.size W w1) := Lib.hid (HB.out.trans (Below.mono (by go_split_ands; assumption) hsz))
          go_roundw
          case rel => exact ⟨acc ||| gv, l2, by rw [← hor], rfl, ho16, by omega, HN2, HB6⟩
          case measure => simp [intOf]; omega
      · have HG : Hid (pv = 0) := Lib.hid (by rw [HPV.out, if_neg hc])
        have HN2 : Hid (g &&& l2 = l2 ∧ acc ||| orL (givP com D f g) (leftsFrom g l2) = T) := Lib.hid (by have := HN.out; rw [HG.out, Nat.or_zero] at this; exact this)
        obtain ⟨y0, y1, y2, y3, y4, y5, y6, y7, y8, y9, y10⟩ := HX.out
        cases hcom : com with
        | true => rw [hcom] at hc; simp at hc
        | false =>
          subst hcom
          have HBE := Lib.hid (HBF.out false (by simpa using hc))
          clear hc
          go_wp2_with (go_at_call 215; refine (HBE.out _).mono ?_; rintro e w0 ⟨rfl, rfl⟩)
          go_roundw
          case rel => exact ⟨acc, l2, rfl, rfl, hac, by omega, HN2, HB⟩
          case measure => simp [intOf]; omega
end Go.Proofs.YtjejdcehlckfhaaGreat.tsk
/-
  THE PROGRAM's FUNCTIONS OF THE SORTS OF TERMS: firstNumbers, waysToCombine, resultSorts.
-/
namespace Go.Proofs.YtjejdcehlckfhaaGreat.tsl
open Go.ChangeShapes Go.WideShapes Go.ChangeAt Go.RowKit
open mem split strl subs sortn setm sets sortm sortp sorti rowl sigm sigs gramo tsm tsi tsj tsk

theorem ArrF.set {w : World} {b : Nat} {f : Nat → Nat} (h : ArrF w b f) {x : Nat} (hx : x < 128) (v : Nat) : ArrF (w.setCell ⟨b, x, none⟩ (.int .u16 (v : Int))) b (fun y => if y = x then v else f y) := by
  refine ⟨by rw [show (w.setCell ⟨b, x, none⟩ (.int .u16 (v : Int))).heap.size = w.heap.size by simp [World.setCell]]; exact h.1, fun y hy => ⟨?_, ?_⟩⟩
  · by_cases e : y = x
    · subst e
      simp only [if_pos]
      exact World.cell?_setCell_same _ _ _ (h.2 y hy).1
    · simp only [if_neg e]
      rw [World.cell?_setCell_other w ⟨b, x, none⟩ ⟨b, y, none⟩ _ (fun e' => e (by injection e' with _ h _; exact h.symm))]
      exact (h.2 y hy).1
  · rw [World.frozen?_setCell]
    exact (h.2 y hy).2
theorem zero128 : Tryz.zeroCells227 = Array.replicate 128 (.int .u16 0) := by kernel_rfl
theorem ArrF.new (w : World) : ArrF (w.alloc (.cells Tryz.zeroCells227 227)) w.heap.size (fun _ => 0) := by
  rw [zero128]
  refine ⟨by simp, fun x hx => ⟨?_, ?_⟩⟩
  · refine (cell_of_row _ _ x _ _ _ (termt.heap_at _ _ _ rfl)).trans ?_
    simp [hx]
  · simp
theorem heap3a (w : World) (o1 o2 o3 : Obj) : (((w.alloc o1).alloc o2).alloc o3).heap[w.heap.size]? = some o1 := by
  show (((w.heap.push o1).push o2).push o3)[w.heap.size]? = some o1
  rw [Array.getElem?_push, if_neg (by simp; try omega), Array.getElem?_push, if_neg (by simp; try omega), Array.getElem?_push, if_pos rfl]
theorem heap3b (w : World) (o1 o2 o3 : Obj) : (((w.alloc o1).alloc o2).alloc o3).heap[w.heap.size + 1]? = some o2 := by
  show (((w.heap.push o1).push o2).push o3)[w.heap.size + 1]? = some o2
  rw [Array.getElem?_push, if_neg (by simp; try omega), Array.getElem?_push, if_pos (by simp; try omega)]
theorem heap2a (w : World) (o1 o2 : Obj) : ((w.alloc o1).alloc o2).heap[w.heap.size]? = some o1 := by
  show ((w.heap.push o1).push o2)[w.heap.size]? = some o1
  rw [Array.getElem?_push, if_neg (by simp; try omega), Array.getElem?_push, if_pos rfl]
theorem box3 {w : World} {x : Nat} {v0 v1 v2 : Value} {t : TypeId} (h : w.heap[x]? = some (.cells #[v0, v1, v2] t (0, 0))) : w.cell? ⟨x, 0, none⟩ = some v0 ∧ w.cell? ⟨x, 1, none⟩ = some v1 ∧ w.cell? ⟨x, 2, none⟩ = some v2 :=
  ⟨cell_of_row w x 0 _ _ _ h, cell_of_row w x 1 _ _ _ h, cell_of_row w x 2 _ _ _ h⟩
theorem box11 {w : World} {x : Nat} {nm : List UInt8} {A : Option Addr} {n c : Nat} {a b : Bool} {u : Int} {i s0 s1 s2 s3 s4 : Nat} {t : TypeId} (h : w.heap[x]? = some (.cells #[.string (bstr nm), .slice A n c, .bool a, .bool b, .int .i64 u, .int .i64 (i : Int), .int .i64 (s0 : Int), .int .u16 (s1 : Int), .int .u16 (s2 : Int), .int .u16 (s3 : Int), .int .u16 (s4 : Int)] t (0, 0))) : C11 x nm A n c a b u i s0 s1 s2 s3 s4 w :=
  ⟨cell_of_row w x 0 _ _ _ h, cell_of_row w x 1 _ _ _ h, cell_of_row w x 2 _ _ _ h, cell_of_row w x 3 _ _ _ h, cell_of_row w x 4 _ _ _ h, cell_of_row w x 5 _ _ _ h, cell_of_row w x 6 _ _ _ h, cell_of_row w x 7 _ _ _ h, cell_of_row w x 8 _ _ _ h, cell_of_row w x 9 _ _ _ h, cell_of_row w x 10 _ _ _ h⟩
abbrev SCmb (x y : Nat) (mm um : Option Nat) (Ao : Option Addr) (no co : Nat) (nm : List UInt8) (A : Option Addr) (n c : Nat) (a b : Bool) (u : Int) (i s0 s1 s2 s3 s4 : Nat) (B : Nat) (W w : World) : Prop :=
  ((w.cell? ⟨x, 0, none⟩ = some (.map mm) ∧ w.cell? ⟨x, 1, none⟩ = some (.slice Ao no co) ∧ w.cell? ⟨x, 2, none⟩ = some (.map um)) ∧ C11 y nm A n c a b u i s0 s1 s2 s3 s4 w) ∧ Below B W w
theorem C11.belowB {x : Nat} {nm : List UInt8} {A : Option Addr} {n c : Nat} {a b : Bool} {u : Int} {i s0 s1 s2 s3 s4 : Nat} {w w' : World} {B : Nat} (h : C11 x nm A n c a b u i s0 s1 s2 s3 s4 w) (hx : x < B) (hb : Below B w w') : C11 x nm A n c a b u i s0 s1 s2 s3 s4 w' := by
  have k : ∀ y, w'.cell? ⟨x, y, none⟩ = w.cell? ⟨x, y, none⟩ := fun y => hb.cell (p := ⟨x, y, none⟩) hx
  unfold C11
  rw [k, k, k, k, k, k, k, k, k, k, k]
  exact h
theorem SCmb.of {x y : Nat} {mm um : Option Nat} {Ao : Option Addr} {no co : Nat} {nm : List UInt8} {A : Option Addr} {n c : Nat} {a b : Bool} {u : Int} {i s0 s1 s2 s3 s4 B : Nat} {W w : World} (h : SCmb x y mm um Ao no co nm A n c a b u i s0 s1 s2 s3 s4 B W W) (hx : x < B) (hy : y < B) (hb : Below B W w) : SCmb x y mm um Ao no co nm A n c a b u i s0 s1 s2 s3 s4 B W w := by
  have k : ∀ z, w.cell? ⟨x, z, none⟩ = W.cell? ⟨x, z, none⟩ := fun z => hb.cell (p := ⟨x, z, none⟩) hx
  refine ⟨⟨?_, C11.belowB h.1.2 hy hb⟩, hb⟩
  rw [k, k, k]
  exact h.1.1
/-- firstNumbers -/
theorem first_any (n : Nat) (hn : n ≤ 15) (w : World) : Calls Tryz.prog 149 #[.int .i64 (n : Int)] w fun e w' => e = .returned (.int .u16 ((2 ^ n - 1 : Nat) : Int)) ∧ w' = w := by
  have h1 : 2 ^ n ≤ 32768 := Nat.pow_le_pow_right (n := 2) (j := 15) (by decide) hn
  have h0 : 0 < 2 ^ n := Nat.two_pow_pos n
  have hw1 : IntKind.u16.wrap (2 ^ n) = ((2 ^ n : Nat) : Int) := by
    have e : (2 : Int) ^ n = ((2 ^ n : Nat) : Int) := by simp
    rw [e]; exact wraps_u16 _ (by omega) (by omega)
  have hn0 : ¬ (n : Int) < 0 := by omega
  obtain ⟨z, hz⟩ : ∃ z, z = 2 ^ n := ⟨_, rfl⟩
  rw [← hz] at h1 h0 hw1 ⊢
  obtain ⟨m, hm⟩ : ∃ m, m = z - 1 := ⟨_, rfl⟩
  have hw2 : IntKind.u16.wrap ((z : Int) - 1) = (m : Int) := by rw [wraps_u16 _ (by omega) (by omega)]; omega
  rw [← hm]
  clear hz hm h1 h0
  go_enter Tryz.func149, Tryz.ntmps149
  go_wp2
  go_ret
  exact ⟨rfl, rfl⟩
set_option maxRecDepth 20000 in
set_option maxHeartbeats 4000000 in
/-- sortRules.waysToCombine: all ways -/
theorem ways_any (U : List Nat) (hU : Lim U) (mm um : Option Nat) (Ao : Option Addr) (no co : Nat) (nm : List UInt8) (Ad : Option Addr) (dn cd : Nat) (a com : Bool) (u : Int) (i s0 s1 s2 s3 s4 : Nat) (D : List (List Int × Int)) (A : List Nat) (h2 : 2 ≤ A.length) (h7 : A.length ≤ 7) (hA : ∀ i, A.getD i 0 < 2 ^ U.length) (va : Value) (w : World) (hM : MapU w (.map um) U) (hD : HasD 0 w (.slice Ad dn cd) D) (hDN : DeclN U.length 2 D) (hva : Has w va (u16s A)) :
    Calls Tryz.prog 148 #[.agg #[.map mm, .slice Ao no co, .map um], aggE nm Ad dn cd a com u i s0 s1 s2 s3 s4, va] w fun e w' => ∃ (b : Nat) (f : Nat → Nat), e = .returned (.pointer (some ⟨b, 0, none⟩)) ∧ w.heap.size ≤ b ∧ ArrF w' b f ∧ Done com U D A (A.length + 1) 0 f ∧ (∀ x, f x < 2 ^ U.length) ∧ Below w.heap.size w w' := by
  have hpn := pow8 hU.1
  obtain ⟨p, hp⟩ : ∃ p, p = A.length := ⟨_, rfl⟩
  obtain ⟨Aa, ca, rfl, hva⟩ := hva.shape (n := p) (by rw [u16s_len, hp])
  have HUP := Lib.hid (fun S (hS : S < 65536) W (hW : Below w.heap.size w W) => upward_any U hU S hS (.map um) W (hM.below hW))
  have HGR := Lib.hid (fun g (g0 : 0 < g) (gh : g < 128) f (hf : ∀ x, f x < 65536) bl W (hW : Below w.heap.size w W) (hAr : ArrF W bl f) => grpResults_any hU.1 nm Ad dn cd a com u i s0 s1 s2 s3 s4 D g g0 gh f hf bl W hAr (hD.below RD_steady (Nat.le_refl _) hW) hDN)
  have HVA := Lib.hid (fun W (hW : Below w.heap.size w W) => hva.below (Nat.le_refl _) hW)
  have HP := Lib.hid hp
  have HAL := Lib.hid hA
  have HLIM := Lib.hid hU
  have HDN := Lib.hid hDN
  have hla := hva.len.2
  rw [← hp] at h2 h7 ⊢
  have hz7 : 2 ^ p ≤ 128 := Nat.pow_le_pow_right (n := 2) (j := 7) (by decide) h7
  have hz1 : 2 ^ 2 ≤ 2 ^ p := Nat.pow_le_pow_right (by decide) h2
  have HFN := Lib.hid (first_any p (by omega))
  have HZ : Hid (2 ^ A.length = 2 ^ p) := Lib.hid (by rw [HP.out])
  obtain ⟨z, hz⟩ : ∃ z, z = 2 ^ p := ⟨_, rfl⟩
  rw [← hz] at hz7 hz1 HFN HZ
  obtain ⟨m, hm⟩ : ∃ m, m = z - 1 := ⟨_, rfl⟩
  have hw3 : IntKind.u16.wrap ((m : Int) + 1) = (z : Int) := by rw [wraps_u16 _ (by omega) (by omega)]; omega
  have hmz : m + 1 = z := by omega
  rw [← hm] at HFN
  clear hz hm
  obtain ⟨W, hW⟩ : ∃ W, W = ((w.alloc (.cells #[.map mm, .slice Ao no co, .map um] 82)).alloc (.cells #[.string (bstr nm), .slice Ad dn cd, .bool a, .bool com, .int .i64 u, .int .i64 (i : Int), .int .i64 (s0 : Int), .int .u16 (s1 : Int), .int .u16 (s2 : Int), .int .u16 (s3 : Int), .int .u16 (s4 : Int)] 102)).alloc (.cells Tryz.zeroCells227 227) := ⟨_, rfl⟩
  have hb0 : Below w.heap.size w W := by
    rw [hW]
    repeat (first | exact Below.refl _ _ | refine Below.alloc ?_ (by first | (simp; done) | (simp; omega)) _)
  have hX0 : SCmb w.heap.size (w.heap.size + 1) mm um Ao no co nm Ad dn cd a com u i s0 s1 s2 s3 s4 (w.heap.size + 2) W W := by
    rw [hW]
    exact ⟨⟨box3 (heap3a _ _ _ _), box11 (heap3b _ _ _ _)⟩, Below.refl _ _⟩
  have hA0 : ArrF W (w.heap.size + 2) (fun _ => 0) := by
    rw [hW]
    have := ArrF.new ((w.alloc (.cells #[.map mm, .slice Ao no co, .map um] 82)).alloc (.cells #[.string (bstr nm), .slice Ad dn cd, .bool a, .bool com, .int .i64 u, .int .i64 (i : Int), .int .i64 (s0 : Int), .int .u16 (s1 : Int), .int .u16 (s2 : Int), .int .u16 (s3 : Int), .int .u16 (s4 : Int)] 102))
    simpa using this
  have HB0 := Lib.hid hb0
  have HX0 := Lib.hid hX0
  have HA0 := Lib.hid hA0
  clear hM hD hDN hva hA hp hb0 hX0 hA0
  go_enter Tryz.func148, Tryz.ntmps148
  go_wp2
  rw [← hW]
  clear hW
  go_loopw [8, 9, 16] (fun _ _ v16 wr => ∃ (k : Nat) (f : Nat → Nat), v16 = .int .i64 k ∧ k ≤ p ∧ Hid (∀ i, i < k → f (2 ^ i) = A.getD i 0) ∧ Hid (∀ x, f x < 2 ^ U.length) ∧ Hid (ArrF wr (w.heap.size + 2) f) ∧ Hid (Below (w.heap.size + 2) W wr)) (fun _ _ v _ => p - (intOf v).toNat)
  case atStart => exact ⟨0, fun _ => 0, rfl, Nat.zero_le _, Lib.hid (fun i hi => absurd hi (Nat.not_lt_zero _)), Lib.hid (fun _ => Nat.two_pow_pos _), HA0, Lib.hid (Below.refl _ _)⟩
  case round =>
    obtain ⟨k, f, rfl, hk, HF, HFL, HAR, HB⟩ := hrel
    have hbw := HB0.out.trans (HB.out.mono (by omega))
    have hs3 := HAR.out.1
    by_cases hlt : k < p
    · obtain ⟨g, o, rfl, hg, hcell⟩ := (HVA.out wr hbw).cellAt hlt
      rw [u16s_get _ k (by have := HP.out; omega)] at hcell
      have hk7 : 2 ^ k < 128 := Nat.pow_lt_pow_right (a := 2) (m := k) (n := 7) (by decide) (by omega)
      have hwr : wrap64 (2 ^ k) = ((2 ^ k : Nat) : Int) := by
        have e : (2 : Int) ^ k = ((2 ^ k : Nat) : Int) := by simp
        rw [e]
        obtain ⟨b, hb⟩ : ∃ b, b = 2 ^ k := ⟨_, rfl⟩
        rw [← hb] at hk7 ⊢
        unfold wrap64; omega
      obtain ⟨c0, c1⟩ := HAR.out.2 (2 ^ k) hk7
      obtain ⟨av, hav⟩ : ∃ q, q = A.getD k 0 := ⟨_, rfl⟩
      rw [← hav] at hcell
      have HF2 : Hid (∀ i, i < k + 1 → (fun y => if y = 2 ^ k then av else f y) (2 ^ i) = A.getD i 0) := Lib.hid (fun i hi => by
        by_cases e : i = k
        · subst e; simp only [if_pos]; exact hav
        · have : 2 ^ i ≠ 2 ^ k := Nat.ne_of_lt (Nat.pow_lt_pow_right (by decide) (by omega))
          simp only [if_neg this]
          exact HF.out i (by omega))
      have HFL2 : Hid (∀ x, (fun y => if y = 2 ^ k then av else f y) x < 2 ^ U.length) := Lib.hid (fun x => by
        by_cases e : x = 2 ^ k
        · simp only [if_pos e]; rw [hav]; exact HAL.out k
        · simp only [if_neg e]; exact HFL.out x)
      have HA2 := Lib.hid (ArrF.set HAR.out hk7 av)
      obtain ⟨y, hy⟩ : ∃ y, y = 2 ^ k := ⟨_, rfl⟩
      rw [← hy] at hk7 hwr c0 c1 HF2 HFL2 HA2
      have i1 : (0 : Int) ≤ (k : Int) := by omega
      have i2 : (k : Int) < (p : Int) := by omega
      have i3 : (0 : Int) ≤ (y : Int) := by omega
      have i4 : (y : Int) < 128 := by omega
      have HB2 := Lib.hid (HB.out.setCell (p := ⟨w.heap.size + 2, y, none⟩) (Nat.le_refl _) (.int .u16 (av : Int)))
      clear hav hy
      go_wp2
      go_region
      go_wp2
      go_roundw
      case rel => exact ⟨k + 1, _, by go_num, by omega, HF2, HFL2, HA2, Lib.hid HB2.out.drew⟩
      case measure => simp [intOf]; omega
    · obtain rfl : k = p := by omega
      clear hlt
      have HD0 : Hid (Done com U D A 2 0 f) := Lib.hid (done_first (by have := HP.out; omega) (fun i hi => HF.out i (by have := HP.out; omega)))
      clear HF
      clear hs3
      go_wp2
      go_loopw [10] (fun v11 wr => ∃ (s : Nat) (f : Nat → Nat), v11 = .int .i64 s ∧ 2 ≤ s ∧ s ≤ k + 1 ∧ Hid (Done com U D A s 0 f) ∧ Hid (∀ x, f x < 2 ^ U.length) ∧ Hid (ArrF wr (w.heap.size + 2) f) ∧ Hid (Below (w.heap.size + 2) W wr)) (fun v _ => k + 1 - (intOf v).toNat)
      case atStart => exact ⟨2, f, rfl, Nat.le_refl _, by omega, HD0, HFL, HAR, HB⟩
      case round =>
        clear HD0 HFL HAR HB hbw
        obtain ⟨s, f, rfl, hs2, hsk, HDN2, HFL, HAR, HB⟩ := hrel
        by_cases hlt : s ≤ k
        · have d1 : decide ((s : Int) ≤ (k : Int)) = true := decide_eq_true (by omega)
          go_wp2_with (go_at_call 149; refine (HFN.out _).mono ?_; rintro e w0 ⟨rfl, rfl⟩)
          go_loopw [38] (fun v37 wr => ∃ (g : Nat) (f : Nat → Nat), v37 = .int .u16 g ∧ g ≤ z ∧ Hid (Done com U D A s g f) ∧ Hid (∀ x, f x < 2 ^ U.length) ∧ Hid (ArrF wr (w.heap.size + 2) f) ∧ Hid (Below (w.heap.size + 2) W wr)) (fun v _ => z - (intOf v).toNat)
          case atStart => exact ⟨0, f, rfl, Nat.zero_le _, HDN2, HFL, HAR, HB⟩
          case round =>
            clear HDN2 HFL HAR HB
            obtain ⟨g, f, rfl, hgz, HDN2, HFL, HAR, HB⟩ := hrel
            have hbw := HB0.out.trans (HB.out.mono (by omega))
            have HBW := Lib.hid hbw
            have hs3 := HAR.out.1
            by_cases hgl : g < z
            · have HCN := Lib.hid (fun W => ncount_any g (by omega) W)
              have hwg : IntKind.u16.wrap ((g : Int) + 1) = (g : Int) + 1 := wraps_u16 _ (by omega) (by omega)
              rw [show (els g).length = cnt g from rfl] at HCN
              have hc7 := (cnt_small ⟨g, by omega⟩).1
              simp only at hc7
              by_cases hc : cnt g = s
              · have HRS := Lib.hid (done_give (by have := HP.out; omega) HDN2.out hc hs2 (by rw [HZ.out]; exact hgl))
                have hg0 : 0 < g := Nat.pos_of_ne_zero (fun e => by rw [e] at hc; rw [show cnt 0 = 0 from by decide] at hc; omega)
                rw [hc] at HCN
                have HG := Lib.hid (fun W hW hA => HGR.out g hg0 (by omega) f (fun x => Nat.lt_of_lt_of_le (HFL.out x) (by omega)) (w.heap.size + 2) W hW hA)
                have hgl16 : orL (fun l => giveR D [f l, f (rest g l)]) (leftsC com g) < 65536 := Nat.lt_of_lt_of_le (orL_lt _ _ U.length (fun l _ => giveR_lt HDN.out _)) (by omega)
                obtain ⟨gv, hgv⟩ : ∃ q, q = orL (fun l => giveR D [f l, f (rest g l)]) (leftsC com g) := ⟨_, rfl⟩
                rw [← hgv] at HG HRS hgl16
                have HU2 := Lib.hid (HUP.out gv hgl16)
                have HD3 : Hid (Done com U D A s (g + 1) (fun x => if x = g then upC U gv else f x)) := Lib.hid (done_fill HDN2.out HRS.out.symm)
                have HFL2 : Hid (∀ x, (fun x => if x = g then upC U gv else f x) x < 2 ^ U.length) := Lib.hid (fun x => by
                  by_cases e : x = g
                  · simp only [if_pos e]; exact upC_lt HLIM.out gv
                  · simp only [if_neg e]; exact HFL.out x)
                obtain ⟨uv, huv⟩ : ∃ q, q = upC U gv := ⟨_, rfl⟩
                rw [← huv] at HU2 HD3 HFL2
                have HX := Lib.hid (SCmb.of HX0.out (by omega) (by omega) HB.out)
                have HX1 : Hid (SCmb w.heap.size (w.heap.size + 1) mm um Ao no co nm Ad dn cd a com u i s0 s1 s2 s3 s4 (w.heap.size + 2) wr wr) := Lib.hid ⟨HX.out.1, Below.refl _ _⟩
                have i1 : (0 : Int) ≤ (g : Int) := by omega
                have i2 : (g : Int) < 128 := by omega
                clear hc hgv huv hgl16 hbw HRS hg0
                go_wp2_with (go_at_call 48; refine (HCN.out _).mono ?_; rintro e w0 ⟨rfl, nq, rfl⟩)
                have hbq : Below (w.heap.size + 3) wr (wr.drewN nq).drew := (below_drewN (Below.refl _ _) nq).drew
                have HBQ := Lib.hid hbq
                clear hbq
                obtain ⟨⟨z0, z1, z2⟩, y0, y1, y2, y3, y4, y5, y6, y7, y8, y9, y10⟩ := HX1.out.1
                go_region_held3 (SCmb w.heap.size (w.heap.size + 1) mm um Ao no co nm Ad dn cd a com u i s0 s1 s2 s3 s4 (w.heap.size + 2) wr)
                  (exact SCmb.of HX1.out (by omega) (by omega) (by first | exact HBQ.out.mono (by omega) | exact HB1.out.mono (by omega) | exact HB2.out.mono (by omega) | exact HB2c.out _))
                  ((first
                    | (go_at_call 185; refine (HG.out _ (HBW.out.trans (HBQ.out.mono (by omega))) (HAR.out.below (B := w.heap.size + 3) (by omega) HBQ.out)).mono ?_; rintro e w1 ⟨rfl, hb1⟩; have HB1 := Lib.hid (HBQ.out.trans (hb1.mono (by have := HBQ.out.size; omega))); clear hb1)
                    | (go_at_call 150; refine (HU2.out _ (HBW.out.trans (HB1.out.mono (by omega)))).mono ?_; rintro e w2 ⟨rfl, hb2⟩; have HB2 := Lib.hid (HB1.out.trans (hb2.mono (by have := HB1.out.size; omega))); clear hb2; have HB2c := Lib.hid (fun v => (HB2.out.mono (B' := w.heap.size + 2) (by omega)).setCell (p := ⟨w.heap.size + 2, g, none⟩) (Nat.le_refl _) v); obtain ⟨t1, t2⟩ := (HAR.out.below (B := w.heap.size + 3) (by omega) HB2.out).2 g (by omega))))
                have HA4 := Lib.hid (ArrF.set (HAR.out.below (B := w.heap.size + 3) (by omega) HB2.out) (x := g) (by omega) uv)
                have HB4 := Lib.hid ((HB.out.trans (HB2.out.mono (by omega))).setCell (p := ⟨w.heap.size + 2, g, none⟩) (Nat.le_refl _) (.int .u16 (uv : Int)))
                go_wp2
                go_roundw
                case rel => exact ⟨g + 1, _, by go_num, by omega, HD3, HFL2, HA4, HB4⟩
                case measure => simp [intOf]; omega
              · have HD3 : Hid (Done com U D A s (g + 1) f) := Lib.hid (done_step HDN2.out hc)
                have d3 : ((cnt g : Int) == (s : Int)) = false := by simp; omega
                have d4 : decide ((cnt g : Int) = (s : Int)) = false := decide_eq_false (by omega)
                obtain ⟨cg, hcg⟩ : ∃ q, q = cnt g := ⟨_, rfl⟩
                rw [← hcg] at HCN d3 d4 hc
                clear hcg hbw
                go_wp2_with (go_at_call 48; refine (HCN.out _).mono ?_; rintro e w0 ⟨rfl, nq, rfl⟩)
                go_roundw
                case rel => exact ⟨g + 1, f, by go_num, by omega, HD3, HFL, Lib.hid (HAR.out.below (B := w.heap.size + 3) (by omega) (below_drewN (Below.refl _ _) nq)), Lib.hid (below_drewN HB.out nq)⟩
                case measure => simp [intOf]; omega
            · obtain rfl : g = z := by omega
              have HD3 : Hid (Done com U D A (s + 1) 0 f) := Lib.hid (done_next HDN2.out (by rw [HZ.out]; omega))
              go_wp2
              go_roundw
              case rel => exact ⟨s + 1, f, by go_num, by omega, by omega, HD3, HFL, HAR, HB⟩
              case measure => simp [intOf]; omega
        · obtain rfl : s = k + 1 := by omega
          have d1 : decide (((k + 1 : Nat) : Int) ≤ (k : Int)) = false := decide_eq_false (by omega)
          go_wp2
          go_ret
          exact ⟨_, f, rfl, by omega, HAR.out, HP.out ▸ HDN2.out, HFL.out, HB0.out.trans (HB.out.mono (by omega))⟩
set_option maxRecDepth 20000 in
set_option maxHeartbeats 4000000 in
/-- sortRules.resultSorts -/
theorem resultSorts_any (U : List Nat) (hU : Lim U) (mm um : Option Nat) (Ao : Option Addr) (no co : Nat) (nm : List UInt8) (Ad : Option Addr) (dn cd : Nat) (a com : Bool) (u : Int) (i s0 s1 s2 s3 s4 : Nat) (D : List (List Int × Int)) (A : List Nat) (q : Nat) (hDN : DeclN U.length q D) (hq : (a || com) = true → q = 2 ∧ 2 ≤ A.length ∧ A.length ≤ 7) (hq2 : q ≤ A.length) (hA : ∀ i, A.getD i 0 < 2 ^ U.length) (va : Value) (w : World) (hM : MapU w (.map um) U) (hD : HasD 0 w (.slice Ad dn cd) D) (hva : Has w va (u16s A)) :
    Calls Tryz.prog 104 #[.agg #[.map mm, .slice Ao no co, .map um], aggE nm Ad dn cd a com u i s0 s1 s2 s3 s4, va] w fun e w' => e = .returned (.int .u16 ((sortsA U D a com A : Nat) : Int)) ∧ Below w.heap.size w w' := by
  have hpn := pow8 hU.1
  have HCB := Lib.hid (fun (h : (a || com) = true) W (hW : Below w.heap.size w W) => (ways_any U hU mm um Ao no co nm Ad dn cd a com u i s0 s1 s2 s3 s4 D A (hq h).2.1 (hq h).2.2 hA va W (hM.below hW) (hD.below RD_steady (Nat.le_refl _) hW) ((hq h).1 ▸ hDN) (hva.below (Nat.le_refl _) hW)).mono (fun e w' h' => by
    obtain ⟨b, f, h1, h2, h3, h4, _, h6⟩ := h'
    exact (show ∃ (b : Nat) (f : Nat → Nat), e = .returned (.pointer (some ⟨b, 0, none⟩)) ∧ ArrF w' b f ∧ f (2 ^ A.length - 1) = V com U D A (2 ^ A.length - 1) ∧ Below W.heap.size W w' from ⟨b, f, h1, h3, done_whole (hq h).2.2 (by have := (hq h).2.1; omega) h4, h6⟩)))
  have HFN := Lib.hid (fun (h : (a || com) = true) => first_any A.length (by have := (hq h).2.2; omega))
  have HM7 : Hid ((a || com) = true → 2 ^ A.length - 1 < 128) := Lib.hid (fun h => by
    have : 2 ^ A.length ≤ 2 ^ 7 := Nat.pow_le_pow_right (by decide) (hq h).2.2
    omega)
  have HUP := Lib.hid (fun S (hS : S < 65536) W (hW : Below w.heap.size w W) => upward_any U hU S hS (.map um) W (hM.below hW))
  have HOR := Lib.hid (fun W (hW : Below w.heap.size w W) => opResults_any hU.1 nm Ad dn cd a com u i s0 s1 s2 s3 s4 D A va W (hD.below RD_steady (Nat.le_refl _) hW) hDN hq2 (fun i => Nat.lt_of_lt_of_le (hA i) (by omega)) (hva.below (Nat.le_refl _) hW))
  have hgl := giveR_lt hDN A
  obtain ⟨pp, hpp⟩ : ∃ q, q = A.length := ⟨_, rfl⟩
  obtain ⟨Aa, ca, rfl, hva⟩ := hva.shape (n := pp) (by rw [u16s_len, hpp])
  have HSA : Hid (sortsA U D a com A = if a || com then V com U D A (2 ^ A.length - 1) else upC U (giveR D A)) := Lib.hid rfl
  obtain ⟨sv, hsv⟩ : ∃ q, q = sortsA U D a com A := ⟨_, rfl⟩
  rw [← hsv] at HSA ⊢
  obtain ⟨gv, hgv⟩ : ∃ q, q = giveR D A := ⟨_, rfl⟩
  rw [← hgv] at HOR HSA hgl
  have hgl16 : gv < 65536 := by omega
  have HU2 := Lib.hid (HUP.out gv hgl16)
  obtain ⟨uv, huv⟩ : ∃ q, q = upC U gv := ⟨_, rfl⟩
  rw [← huv] at HU2 HSA
  obtain ⟨vv, hvv⟩ : ∃ q, q = V com U D A (2 ^ A.length - 1) := ⟨_, rfl⟩
  rw [← hvv] at HCB HSA
  rw [← hpp] at HCB HFN HM7
  obtain ⟨mx, hmx⟩ : ∃ q, q = 2 ^ pp - 1 := ⟨_, rfl⟩
  rw [← hmx] at HCB HFN HM7
  obtain ⟨W, hW⟩ : ∃ W, W = (w.alloc (.cells #[.map mm, .slice Ao no co, .map um] 82)).alloc (.cells #[.string (bstr nm), .slice Ad dn cd, .bool a, .bool com, .int .i64 u, .int .i64 (i : Int), .int .i64 (s0 : Int), .int .u16 (s1 : Int), .int .u16 (s2 : Int), .int .u16 (s3 : Int), .int .u16 (s4 : Int)] 102) := ⟨_, rfl⟩
  have hb0 : Below w.heap.size w W := by
    rw [hW]
    repeat (first | exact Below.refl _ _ | refine Below.alloc ?_ (by first | (simp; done) | (simp; omega)) _)
  have hX0 : SCmb w.heap.size (w.heap.size + 1) mm um Ao no co nm Ad dn cd a com u i s0 s1 s2 s3 s4 (w.heap.size + 2) W W := by
    rw [hW]
    exact ⟨⟨box3 (heap2a _ _ _), box11 (termt.heap_at _ _ _ (by simp))⟩, Below.refl _ _⟩
  have hz : W.heap.size = w.heap.size + 2 := by rw [hW]; simp
  have HB0 := Lib.hid hb0
  have HX0 := Lib.hid hX0
  have HZ := Lib.hid hz
  clear hM hD hDN hva hA hpp hb0 hX0 hsv hgv huv hvv hz hq hq2 HUP hmx
  obtain ⟨⟨z0, z1, z2⟩, y0, y1, y2, y3, y4, y5, y6, y7, y8, y9, y10⟩ := HX0.out.1
  by_cases hc : (a || com) = true
  · have HQ : Hid (sv = vv) := Lib.hid (by rw [HSA.out, if_pos hc])
    have HC1 := Lib.hid (HCB.out hc)
    have HFN1 := Lib.hid (HFN.out hc)
    have hm7 := HM7.out hc
    have i1 : (0 : Int) ≤ (mx : Int) := by omega
    have i2 : (mx : Int) < 128 := by omega
    have HBQ : Hid (Below w.heap.size w W.drew) := Lib.hid HB0.out.drew
    cases a with
    | true =>
      clear hc
      go_enter Tryz.func104, Tryz.ntmps104
      go_wp2_with fail
      rw [← hW]
      clear hW
      go_wp2_with fail
      refine wp_region_noPanic ?_
      refine wp_region_held_drew (S := (SCmb w.heap.size (w.heap.size + 1) mm um Ao no co nm Ad dn cd true com u i s0 s1 s2 s3 s4 (w.heap.size + 2) W)) (by kernel_rfl) ?_ (fun hHd0 => ?_)
      · exact SCmb.of HX0.out (by omega) (by omega) (Below.refl _ _).drew
      refine wpAnyH_take (i := 0) (v := ?_) rfl (by kernel_rfl) (by kernel_rfl) (by kernel_rfl) (fun _ _ _ h => h) (Or.inl ⟨by rfl, ?_⟩) (by with_reducible assumption) ?_
      rotate_left
      · intro w hSw; (try dsimp only at hSw); go_simp <;> with_reducible rfl
      (try simp only [Act.put]); (try simp only [List.setIfInBounds_toArray]); (try simp only [List.set_cons_succ, List.set_cons_zero])
      refine wpAnyH_take (i := 1) (v := ?_) rfl (by kernel_rfl) (by kernel_rfl) (by kernel_rfl) (fun _ _ _ h => h) (Or.inl ⟨by rfl, ?_⟩) (by with_reducible assumption) ?_
      rotate_left
      · intro w hSw; (try dsimp only at hSw); go_simp <;> with_reducible rfl
      (try simp only [Act.put]); (try simp only [List.setIfInBounds_toArray]); (try simp only [List.set_cons_succ, List.set_cons_zero])
      refine wpAnyH_take (i := 2) (v := ?_) rfl (by kernel_rfl) (by kernel_rfl) (by kernel_rfl) (fun _ _ _ h => h) (Or.inl ⟨by rfl, ?_⟩) (by with_reducible assumption) ?_
      rotate_left
      · intro w hSw; (try dsimp only at hSw); go_simp <;> with_reducible rfl
      (try simp only [Act.put]); (try simp only [List.setIfInBounds_toArray]); (try simp only [List.set_cons_succ, List.set_cons_zero])
      refine wpAnyH_take (i := 4) (v := ?_) rfl (by kernel_rfl) (by kernel_rfl) (by kernel_rfl) (fun _ _ _ h => h) (Or.inl ⟨by rfl, ?_⟩) (by with_reducible assumption) ?_
      rotate_left
      · intro w hSw; (try dsimp only at hSw); go_simp <;> with_reducible rfl
      (try simp only [Act.put]); (try simp only [List.setIfInBounds_toArray]); (try simp only [List.set_cons_succ, List.set_cons_zero])
      refine wpAnyH_take (i := 5) (v := ?_) rfl (by kernel_rfl) (by kernel_rfl) (by kernel_rfl) (fun _ _ _ h => h) (Or.inl ⟨by rfl, ?_⟩) (by with_reducible assumption) ?_
      rotate_left
      · intro w hSw; (try dsimp only at hSw); go_simp <;> with_reducible rfl
      (try simp only [Act.put]); (try simp only [List.setIfInBounds_toArray]); (try simp only [List.set_cons_succ, List.set_cons_zero])
      refine wpAnyH_ready (rs := [3]) (by kernel_rfl) (by simp) ?_
      refine AllReadyH.cons (o := _) rfl (fun K hK => ?_) ?_
      · (go_simp; refine (HC1.out _ HBQ.out).mono ?_; rintro e w1 ⟨b, f, rfl, hA1, hf1, hb1⟩; have HB1 := Lib.hid (HBQ.out.trans (hb1.mono HBQ.out.size)); have HC2 : Hid (Below (w.heap.size + 2) W w1) := Lib.hid ((Below.refl _ W).drew.trans (hb1.mono (by show _ ≤ W.heap.size; rw [HZ.out]; exact Nat.le_refl _))); have hc1 := (hA1.2 mx hm7).1; rw [hf1] at hc1; clear hb1 hA1 hf1; (try dsimp only))
        refine hK.out _ _ ?_ (fun hHd1 => ?_)
        · (try dsimp only); exact SCmb.of HX0.out (by omega) (by omega) HC2.out
        clear hK K hHd0
        (try simp only [Act.put]); (try simp only [List.setIfInBounds_toArray]); (try simp only [List.set_cons_succ, List.set_cons_zero])
        refine wpAnyH_take (i := 7) (v := ?_) rfl (by kernel_rfl) (by kernel_rfl) (by kernel_rfl) (fun _ _ _ h => h) (Or.inl ⟨by rfl, ?_⟩) (by with_reducible assumption) ?_
        rotate_left
        · intro w hSw; (try dsimp only at hSw); go_simp <;> with_reducible rfl
        (try simp only [Act.put]); (try simp only [List.setIfInBounds_toArray]); (try simp only [List.set_cons_succ, List.set_cons_zero])
        refine wpAnyH_ready (rs := [6]) (by kernel_rfl) (by simp) ?_
        refine AllReadyH.cons (o := _) rfl (fun K hK => ?_) ?_
        · (go_simp; refine (HFN1.out _).mono ?_; rintro e w2 ⟨rfl, rfl⟩; (try dsimp only))
          refine hK.out _ _ ?_ (fun hHd2 => ?_)
          · (try dsimp only); exact SCmb.of HX0.out (by omega) (by omega) HC2.out
          clear hK K hHd1
          (try simp only [Act.put]); (try simp only [List.setIfInBounds_toArray]); (try simp only [List.set_cons_succ, List.set_cons_zero])
          refine wpAnyH_take (i := 8) (v := ?_) rfl (by kernel_rfl) (by kernel_rfl) (by kernel_rfl) (fun _ _ _ h => h) (Or.inl ⟨by rfl, ?_⟩) (by with_reducible assumption) ?_
          rotate_left
          · intro w hSw; (try dsimp only at hSw); go_simp <;> with_reducible rfl
          (try simp only [Act.put]); (try simp only [List.setIfInBounds_toArray]); (try simp only [List.set_cons_succ, List.set_cons_zero])
          refine wpAnyH_ready (rs := [9]) (by kernel_rfl) (by simp) ?_
          refine AllReadyH.cons (o := _) rfl (fun K hK => ?_) ?_
          · go_simp
            refine hK.out _ _ ?_ (fun hHd3 => ?_)
            · (try dsimp only); exact SCmb.of HX0.out (by omega) (by omega) HC2.out
            clear hK K hHd2
            (try simp only [Act.put]); (try simp only [List.setIfInBounds_toArray]); (try simp only [List.set_cons_succ, List.set_cons_zero])
            refine wpAnyH_ready (rs := [10]) (by kernel_rfl) (by simp) ?_
            refine AllReadyH.cons (o := _) rfl (fun K hK => ?_) ?_
            · go_simp
              refine hK.out _ _ ?_ (fun hHd4 => ?_)
              · (try dsimp only); exact SCmb.of HX0.out (by omega) (by omega) HC2.out
              clear hK K hHd3
              (try simp only [Act.put]); (try simp only [List.setIfInBounds_toArray]); (try simp only [List.set_cons_succ, List.set_cons_zero])
              refine wpAnyH_done (by kernel_rfl) ?_ _
              refine NoPanic.normal ?_
              go_wp2
              go_ret
              exact ⟨by rw [HQ.out]; rfl, HB1.out⟩
            exact AllReadyH.nil
          exact AllReadyH.nil
        exact AllReadyH.nil
      exact AllReadyH.nil
    | false =>
      cases com with
      | false => simp at hc
      | true =>
        clear hc
        go_enter Tryz.func104, Tryz.ntmps104
        go_wp2_with fail
        rw [← hW]
        clear hW
        go_wp2_with fail
        refine wp_region_noPanic ?_
        refine wp_region_held_drew (S := (SCmb w.heap.size (w.heap.size + 1) mm um Ao no co nm Ad dn cd false true u i s0 s1 s2 s3 s4 (w.heap.size + 2) W)) (by kernel_rfl) ?_ (fun hHd0 => ?_)
        · exact SCmb.of HX0.out (by omega) (by omega) (Below.refl _ _).drew
        refine wpAnyH_take (i := 0) (v := ?_) rfl (by kernel_rfl) (by kernel_rfl) (by kernel_rfl) (fun _ _ _ h => h) (Or.inl ⟨by rfl, ?_⟩) (by with_reducible assumption) ?_
        rotate_left
        · intro w hSw; (try dsimp only at hSw); go_simp <;> with_reducible rfl
        (try simp only [Act.put]); (try simp only [List.setIfInBounds_toArray]); (try simp only [List.set_cons_succ, List.set_cons_zero])
        refine wpAnyH_take (i := 1) (v := ?_) rfl (by kernel_rfl) (by kernel_rfl) (by kernel_rfl) (fun _ _ _ h => h) (Or.inl ⟨by rfl, ?_⟩) (by with_reducible assumption) ?_
        rotate_left
        · intro w hSw; (try dsimp only at hSw); go_simp <;> with_reducible rfl
        (try simp only [Act.put]); (try simp only [List.setIfInBounds_toArray]); (try simp only [List.set_cons_succ, List.set_cons_zero])
        refine wpAnyH_take (i := 2) (v := ?_) rfl (by kernel_rfl) (by kernel_rfl) (by kernel_rfl) (fun _ _ _ h => h) (Or.inl ⟨by rfl, ?_⟩) (by with_reducible assumption) ?_
        rotate_left
        · intro w hSw; (try dsimp only at hSw); go_simp <;> with_reducible rfl
        (try simp only [Act.put]); (try simp only [List.setIfInBounds_toArray]); (try simp only [List.set_cons_succ, List.set_cons_zero])
        refine wpAnyH_take (i := 4) (v := ?_) rfl (by kernel_rfl) (by kernel_rfl) (by kernel_rfl) (fun _ _ _ h => h) (Or.inl ⟨by rfl, ?_⟩) (by with_reducible assumption) ?_
        rotate_left
        · intro w hSw; (try dsimp only at hSw); go_simp <;> with_reducible rfl
        (try simp only [Act.put]); (try simp only [List.setIfInBounds_toArray]); (try simp only [List.set_cons_succ, List.set_cons_zero])
        refine wpAnyH_take (i := 5) (v := ?_) rfl (by kernel_rfl) (by kernel_rfl) (by kernel_rfl) (fun _ _ _ h => h) (Or.inl ⟨by rfl, ?_⟩) (by with_reducible assumption) ?_
        rotate_left
        · intro w hSw; (try dsimp only at hSw); go_simp <;> with_reducible rfl
        (try simp only [Act.put]); (try simp only [List.setIfInBounds_toArray]); (try simp only [List.set_cons_succ, List.set_cons_zero])
        refine wpAnyH_ready (rs := [3]) (by kernel_rfl) (by simp) ?_
        refine AllReadyH.cons (o := _) rfl (fun K hK => ?_) ?_
        · (go_simp; refine (HC1.out _ HBQ.out).mono ?_; rintro e w1 ⟨b, f, rfl, hA1, hf1, hb1⟩; have HB1 := Lib.hid (HBQ.out.trans (hb1.mono HBQ.out.size)); have HC2 : Hid (Below (w.heap.size + 2) W w1) := Lib.hid ((Below.refl _ W).drew.trans (hb1.mono (by show _ ≤ W.heap.size; rw [HZ.out]; exact Nat.le_refl _))); have hc1 := (hA1.2 mx hm7).1; rw [hf1] at hc1; clear hb1 hA1 hf1; (try dsimp only))
          refine hK.out _ _ ?_ (fun hHd1 => ?_)
          · (try dsimp only); exact SCmb.of HX0.out (by omega) (by omega) HC2.out
          clear hK K hHd0
          (try simp only [Act.put]); (try simp only [List.setIfInBounds_toArray]); (try simp only [List.set_cons_succ, List.set_cons_zero])
          refine wpAnyH_take (i := 7) (v := ?_) rfl (by kernel_rfl) (by kernel_rfl) (by kernel_rfl) (fun _ _ _ h => h) (Or.inl ⟨by rfl, ?_⟩) (by with_reducible assumption) ?_
          rotate_left
          · intro w hSw; (try dsimp only at hSw); go_simp <;> with_reducible rfl
          (try simp only [Act.put]); (try simp only [List.setIfInBounds_toArray]); (try simp only [List.set_cons_succ, List.set_cons_zero])
          refine wpAnyH_ready (rs := [6]) (by kernel_rfl) (by simp) ?_
          refine AllReadyH.cons (o := _) rfl (fun K hK => ?_) ?_
          · (go_simp; refine (HFN1.out _).mono ?_; rintro e w2 ⟨rfl, rfl⟩; (try dsimp only))
            refine hK.out _ _ ?_ (fun hHd2 => ?_)
            · (try dsimp only); exact SCmb.of HX0.out (by omega) (by omega) HC2.out
            clear hK K hHd1
            (try simp only [Act.put]); (try simp only [List.setIfInBounds_toArray]); (try simp only [List.set_cons_succ, List.set_cons_zero])
            refine wpAnyH_take (i := 8) (v := ?_) rfl (by kernel_rfl) (by kernel_rfl) (by kernel_rfl) (fun _ _ _ h => h) (Or.inl ⟨by rfl, ?_⟩) (by with_reducible assumption) ?_
            rotate_left
            · intro w hSw; (try dsimp only at hSw); go_simp <;> with_reducible rfl
            (try simp only [Act.put]); (try simp only [List.setIfInBounds_toArray]); (try simp only [List.set_cons_succ, List.set_cons_zero])
            refine wpAnyH_ready (rs := [9]) (by kernel_rfl) (by simp) ?_
            refine AllReadyH.cons (o := _) rfl (fun K hK => ?_) ?_
            · go_simp
              refine hK.out _ _ ?_ (fun hHd3 => ?_)
              · (try dsimp only); exact SCmb.of HX0.out (by omega) (by omega) HC2.out
              clear hK K hHd2
              (try simp only [Act.put]); (try simp only [List.setIfInBounds_toArray]); (try simp only [List.set_cons_succ, List.set_cons_zero])
              refine wpAnyH_ready (rs := [10]) (by kernel_rfl) (by simp) ?_
              refine AllReadyH.cons (o := _) rfl (fun K hK => ?_) ?_
              · go_simp
                refine hK.out _ _ ?_ (fun hHd4 => ?_)
                · (try dsimp only); exact SCmb.of HX0.out (by omega) (by omega) HC2.out
                clear hK K hHd3
                (try simp only [Act.put]); (try simp only [List.setIfInBounds_toArray]); (try simp only [List.set_cons_succ, List.set_cons_zero])
                refine wpAnyH_done (by kernel_rfl) ?_ _
                refine NoPanic.normal ?_
                go_wp2
                go_ret
                exact ⟨by rw [HQ.out]; rfl, HB1.out⟩
              exact AllReadyH.nil
            exact AllReadyH.nil
          exact AllReadyH.nil
        exact AllReadyH.nil
  · have HQ : Hid (sv = uv) := Lib.hid (by rw [HSA.out, if_neg hc])
    have ha : a = false := by cases a <;> simp_all
    have hcm : com = false := by cases com <;> simp_all
    subst ha hcm
    clear hc
    go_enter Tryz.func104, Tryz.ntmps104
    go_wp2_with fail
    rw [← hW]
    clear hW
    go_wp2_with fail
    have HBQ : Hid (Below w.heap.size w W.drew) := Lib.hid HB0.out.drew
    go_region_held3 (SCmb w.heap.size (w.heap.size + 1) mm um Ao no co nm Ad dn cd false false u i s0 s1 s2 s3 s4 (w.heap.size + 2) W)
      (exact SCmb.of HX0.out (by omega) (by omega) (by first | exact (Below.refl _ _).drew | exact HC2.out | exact HC3.out))
      ((first
        | (go_at_call 151; refine (HOR.out _ HBQ.out).mono ?_; rintro e w1 ⟨rfl, hb1⟩; have HB1 := Lib.hid (HBQ.out.trans (hb1.mono HBQ.out.size)); have HC2 : Hid (Below (w.heap.size + 2) W w1) := Lib.hid ((Below.refl _ W).drew.trans (hb1.mono (by show _ ≤ W.heap.size; rw [HZ.out]; exact Nat.le_refl _))); clear hb1)
        | (go_at_call 150; refine (HU2.out _ HB1.out).mono ?_; rintro e w2 ⟨rfl, hb2⟩; have HB2 := Lib.hid (HB1.out.trans (hb2.mono HB1.out.size)); have HC3 : Hid (Below (w.heap.size + 2) W w2) := Lib.hid (HC2.out.trans (hb2.mono (by have := HC2.out.size; rw [HZ.out] at this; exact this))); clear hb2)))
    go_wp2
    go_ret
    exact ⟨ret_int (by rw [HQ.out]), HB2.out⟩
end Go.Proofs.YtjejdcehlckfhaaGreat.tsl
/-
  WHAT A VALID SIGNATURE SAYS OF ITS OPERATORS: mathematics alone.
-/
namespace Go.Proofs.YtjejdcehlckfhaaGreat.tsa
open mem dec setm sets sortm sortn sortp sorti sortf sigm sigi sigj sigk sigv gram tsm

theorem op_mem' {O : List OpM} {k : Nat} (h : k < O.length) : O.getD k default ∈ O := by rw [List.getD_eq_getElem?_getD, List.getElem?_eq_getElem h]; exact List.getElem_mem _
theorem hd_ok' {P : List (List UInt8)} {Q : List (Int × Int)} {O : List OpM} (hok : sigOk P Q O = true) {k : Nat} (h : k < O.length) : okD P.length (hd0 (O.getD k default).decls) = true := by
  obtain ⟨_, _, _, hd, _⟩ := sigOk_parts hok
  exact (declsOk_parts (hd _ (op_mem' h))).2.2.2
theorem grM_ok' {P : List (List UInt8)} {Q : List (Int × Int)} {O : List OpM} (hok : sigOk P Q O = true) : grM P Q O = ⟨kindsU P Q, opsE O (shps (κU (kindsU P Q)) O)⟩ := by unfold grM; rw [if_pos hok]
theorem grE_at' {P : List (List UInt8)} {Q : List (Int × Int)} {O : List OpM} (hok : sigOk P Q O = true) {k : Nat} (h : k < O.length) : (grM P Q O).E.getD k default = (O.getD k default, k, shp (κU (kindsU P Q)) (hd0 (O.getD k default).decls)) := by
  rw [grM_ok' hok]
  show (opsE O _).getD k default = _
  rw [opsE_at O _ h, shps_get _ O k h]
theorem lim_clo {P : List (List UInt8)} {Q : List (Int × Int)} (h : okS P Q = true) : Lim (clo P.length (prs Q)) := by
  rw [← ordU_yes h]; exact ordU_lim P Q
/-- the declarations of a valid signature's operator -/
theorem declN {P : List (List UInt8)} {Q : List (Int × Int)} {O : List OpM} (hok : sigOk P Q O = true) {k : Nat} (hk : k < O.length) : DeclN P.length (ar (O.getD k default)) (O.getD k default).decls := by
  obtain ⟨_, _, _, hd, _⟩ := sigOk_parts hok
  obtain ⟨_, _, h3, h4⟩ := declsOk_parts (hd _ (op_mem' hk))
  intro d hdm
  obtain ⟨h5, h6⟩ := h3 d hdm
  obtain ⟨p1, p2, p3⟩ := okD_parts h5
  have hl : d.1.length = (hd0 (O.getD k default).decls).1.length := by
    have := congrArg (fun x => x.1.length) h6
    simpa [kD] using this
  exact ⟨hl, p2, fun j hj => p3 j (by rw [hl]; exact hj)⟩
theorem ar_two {P : List (List UInt8)} {Q : List (Int × Int)} {O : List OpM} (hok : sigOk P Q O = true) {k : Nat} (hk : k < O.length) (h : ((O.getD k default).ass || (O.getD k default).com) = true) : ar (O.getD k default) = 2 := by
  obtain ⟨_, _, _, _, hx⟩ := sigOk_parts hok
  have h4 := hx _ (op_mem' hk)
  simp only [axOk, argsOk, Bool.and_eq_true, Bool.or_eq_true, decide_eq_true_eq, Bool.not_eq_true'] at h4
  rcases h4.1 with h5 | h5
  · rw [h5.1.1, h5.1.2] at h; cases h
  · exact h5.1.1
theorem opE_at {P : List (List UInt8)} {Q : List (Int × Int)} {O : List OpM} (hok : sigOk P Q O = true) {k : Nat} (h : k < O.length) : ((grM P Q O).E.getD k default).1 = O.getD k default := by rw [grE_at' hok h]
theorem grE_len {P : List (List UInt8)} {Q : List (Int × Int)} {O : List OpM} (hok : sigOk P Q O = true) : (grM P Q O).E.length = O.length := by rw [grM_ok' hok]; exact opsE_len _ _
end Go.Proofs.YtjejdcehlckfhaaGreat.tsa
/-
  THE SORTS OF A TERM, as mathematics; impl's sortsOfNode.
-/
namespace Go.Proofs.YtjejdcehlckfhaaGreat.tsn
open Go.ChangeShapes Go.WideShapes Go.ChangeAt Go.RowKit
open mem dec split strl subs sortn setm sets sortm sortp sorti sortg rowl sigm sigs sigk trm trmv terml termb termt termx termro termvr rowg gram gramo gramk gramc gramn gramt formnd formk formr formf formm frm tsa tsm tsi tsj tsk tsl

/-- the sorts of a term -/
noncomputable def sortsT (U : List Nat) (O : List OpM) (t : TermM) : Nat :=
  TermM.rec (motive_1 := fun _ => Nat) (motive_2 := fun _ => List Nat) (fun o _ s _ L => if o = -1 then U.getD s.toNat 0 else sortsA U (O.getD o.toNat default).decls (O.getD o.toNat default).ass (O.getD o.toNat default).com L) [] (fun _ _ a l => a :: l) t
theorem sortsT_mk (U : List Nat) (O : List OpM) (o : Int) (n : List UInt8) (s : Int) (l : List TermM) : sortsT U O (.mk o n s l) = if o = -1 then U.getD s.toNat 0 else sortsA U (O.getD o.toNat default).decls (O.getD o.toNat default).ass (O.getD o.toNat default).com (l.map (sortsT U O)) := by
  have : ∀ l : List TermM, (TermM.rec_1 (motive_1 := fun _ => Nat) (motive_2 := fun _ => List Nat) (fun o _ s _ L => if o = -1 then U.getD s.toNat 0 else sortsA U (O.getD o.toNat default).decls (O.getD o.toNat default).ass (O.getD o.toNat default).com L) [] (fun _ _ a l => a :: l) l : List Nat) = l.map (sortsT U O) := by
    intro l
    induction l with
    | nil => rfl
    | cons a l ih => rw [List.map_cons, ← ih]; rfl
  rw [← this]
  rfl
theorem sortsT_eta (U : List Nat) (O : List OpM) (t : TermM) : sortsT U O t = if t.op = -1 then U.getD t.sort.toNat 0 else sortsA U (O.getD t.op.toNat default).decls (O.getD t.op.toNat default).ass (O.getD t.op.toNat default).com (t.args.map (sortsT U O)) := by
  cases t with
  | mk o n s l => exact sortsT_mk U O o n s l
theorem map_getD_lt {_U : List Nat} {f : TermM → Nat} {l : List TermM} {n : Nat} (h : ∀ a ∈ l, f a < 2 ^ n) (i : Nat) : (l.map f).getD i 0 < 2 ^ n := by
  rw [List.getD_eq_getElem?_getD, List.getElem?_map]
  by_cases hi : i < l.length
  · rw [List.getElem?_eq_getElem hi]
    exact h _ (List.getElem_mem hi)
  · rw [List.getElem?_eq_none (Nat.le_of_not_lt hi)]
    exact Nat.two_pow_pos n
theorem sortsT_lt {U : List Nat} (hU : Lim U) (O : List OpM) : ∀ t, sortsT U O t < 2 ^ U.length := by
  refine TermM.ind (fun o n s l ih => ?_)
  rw [sortsT_mk]
  split
  · exact hU.2 _
  · exact sortsA_lt hU _ _ _ (map_getD_lt (_U := U) ih)
/-- of a node that is no variable: how many arguments -/
theorem node_num {P : List (List UInt8)} {Q : List (Int × Int)} {O : List OpM} (hok : sigOk P Q O = true) {t : TermM} (h : NodeS P O t) (hv : t.op ≠ -1) :
    t.op.toNat < O.length ∧ 0 ≤ t.op ∧ t.args.length ≤ 7 ∧ ar (O.getD t.op.toNat default) ≤ t.args.length ∧ (((O.getD t.op.toNat default).ass || (O.getD t.op.toNat default).com) = true → ar (O.getD t.op.toNat default) = 2 ∧ 2 ≤ t.args.length) ∧ ((O.getD t.op.toNat default).ass = false → t.args.length = ar (O.getD t.op.toNat default)) := by
  unfold NodeS at h
  rw [if_neg hv] at h
  obtain ⟨h1, _, _, h4⟩ := h
  have hk : t.op.toNat < O.length := by omega
  have ha := ar_two hok hk
  have h3 : ar (O.getD t.op.toNat default) ≤ 3 := (okD_parts (hd_ok hok hk)).1
  refine ⟨hk, h1.1, ?_⟩
  cases hass : (O.getD t.op.toNat default).ass with
  | true =>
    rw [hass, if_pos rfl] at h4
    rw [hass] at ha
    have h5 := ha rfl
    exact ⟨h4.2, by omega, fun _ => ⟨h5, h4.1⟩, fun e => by cases e⟩
  | false =>
    rw [hass, if_neg (by simp)] at h4
    rw [hass] at ha
    exact ⟨by omega, by omega, fun hc => ⟨ha hc, by rw [h4, ha hc]; exact Nat.le_refl _⟩, fun _ => h4⟩
theorem takeS (U : List Nat) (O : List OpM) (L : List TermM) (k : Nat) (h : k < L.length) : (L.take (k + 1)).map (sortsT U O) = (L.take k).map (sortsT U O) ++ [sortsT U O (L.getD k default)] := by
  rw [List.take_succ_eq_append_getElem h, List.map_append]; simp [List.getD, List.getElem?_eq_getElem h]
theorem info_ns : (Tryz.prog.info? 75).map (fun i => (i.zero, i.size, i.bytes)) = some (some (.int .u16 0), 1, 2) := by kernel_rfl
abbrev SNod (x g o : Nat) (mm um : Option Nat) (Ao : Option Addr) (no co : Nat) (va : Value) (W w : World) : Prop :=
  ((w.cell? ⟨x, 0, none⟩ = some (.map mm) ∧ w.cell? ⟨x, 1, none⟩ = some (.slice Ao no co) ∧ w.cell? ⟨x, 2, none⟩ = some (.map um)) ∧ w.cell? ⟨g, o + 3, none⟩ = some va) ∧ Below W.heap.size W w
theorem SNod.of {x g o : Nat} {mm um : Option Nat} {Ao : Option Addr} {no co : Nat} {va : Value} {W w : World} (h : SNod x g o mm um Ao no co va W W) (hb : Below W.heap.size W w) : SNod x g o mm um Ao no co va W w := by
  have k : ∀ {a : Addr} {v : Value}, W.cell? a = some v → w.cell? a = some v := fun {a v} h => (hb.cell (p := a) (block_lt_of_cell h)).trans h
  exact ⟨⟨⟨k h.1.1.1, k h.1.1.2.1, k h.1.1.2.2⟩, k h.1.2⟩, hb⟩

def NodC (P : List (List UInt8)) (Q : List (Int × Int)) (O : List OpM) (N : Nat) : Prop := ∀ (mm um : Option Nat) (Ao : Option Addr) (no co : Nat) (t : TermM) (g o : Nat) (v : Value) (w : World) (lo : Nat), HasM w (.map mm) (.slice Ao no co) (grM P Q O) → MapU w (.map um) (clo P.length (prs Q)) →
  w.cell? ⟨g, o, none⟩ = some (.int .i64 t.op) → w.cell? ⟨g, o + 2, none⟩ = some (.int .i64 t.sort) → w.cell? ⟨g, o + 3, none⟩ = some v → HasTs N lo w v t.args → Bnd t → FormS P Q O t →
  Calls Tryz.prog 86 #[.agg #[.map mm, .slice Ao no co, .map um], .pointer (some ⟨g, o, none⟩)] w fun e w' => e = .returned (.int .u16 ((sortsT (clo P.length (prs Q)) O t : Nat) : Int)) ∧ Below w.heap.size w w'
set_option maxRecDepth 50000 in
set_option maxHeartbeats 8000000 in
theorem nodC_step (P : List (List UInt8)) (Q : List (Int × Int)) (O : List OpM) (hok : sigOk P Q O = true) {N : Nat} (hS : ∀ k, N = k + 1 → NodC P Q O k) : NodC P Q O N := by
  intro mm um Ao no co t g o v w lo hM hMU t0 t2 t3 ht hB hF
  have hokS := (sigOk_parts hok).1
  have hlim := lim_clo hokS
  have hpn := pow8 hlim.1
  have hcl := clo_len P.length (prs Q)
  obtain ⟨hnode, hargs, _⟩ := (formS_eta P Q O t).1 hF
  obtain ⟨B, cb, rfl, _⟩ := HasR.shape ht rfl
  have hno := (hM.e.len).1
  rw [grE_len hok] at hno
  have hg := block_lt_of_cell t0
  simp only [] at hg
  have HSV := Lib.hid (sortsT_eta (clo P.length (prs Q)) O t)
  have hslt := sortsT_lt hlim O t
  obtain ⟨sv, hsv⟩ : ∃ q, q = sortsT (clo P.length (prs Q)) O t := ⟨_, rfl⟩
  rw [← hsv] at HSV hslt ⊢
  obtain ⟨W, hW⟩ : ∃ W, W = w.alloc (.cells #[.map mm, .slice Ao no co, .map um] 82) := ⟨_, rfl⟩
  have hb0 : Below w.heap.size w W := by rw [hW]; exact (Below.refl _ _).alloc (Nat.le_refl _) _
  have hz : W.heap.size = w.heap.size + 1 := by rw [hW]; simp
  have hX0 : SNod w.heap.size g o mm um Ao no co (.slice B t.args.length cb) W W := by
    refine ⟨⟨?_, (hb0.cell (p := ⟨g, o + 3, none⟩) hg).trans t3⟩, Below.refl _ _⟩
    rw [hW]
    exact box3 (termt.heap_at _ _ _ rfl)
  have y0 := (hb0.cell (p := ⟨g, o, none⟩) hg).trans t0
  have y2 := (hb0.cell (p := ⟨g, o + 2, none⟩) hg).trans t2
  have HB0 := Lib.hid hb0
  have HX0 := Lib.hid hX0
  have HZ := Lib.hid hz
  have hBt := hB
  obtain ⟨_, ⟨q1, q2⟩, ⟨q3, q4⟩⟩ := hBt
  by_cases hv : t.op = -1
  · have HS1 : Hid (sv = (clo P.length (prs Q)).getD t.sort.toNat 0) := Lib.hid (by rw [HSV.out, if_pos hv])
    unfold NodeS at hnode
    rw [if_pos hv] at hnode
    have HIV := Lib.hid (fun W (hW : W.cell? ⟨g, o, none⟩ = some (.int .i64 t.op)) => isVar_any g o t.op W hW true (decide_eq_true hv))
    have HLK : Hid (∀ q, (Instr.lookup 77 (.map um) (.int .i64 t.sort) false).run Tryz.prog (W.drewN q) = .ok (.int .u16 (sv : Int)) (W.drewN q)) := Lib.hid (fun q => by
      have := (hMU.below (hb0.trans ((below_drewN (Below.refl W.heap.size W) q).mono hb0.size))).look (x := t.sort) q3 q4
      rw [this, HS1.out]
      have e : t.sort = ((t.sort.toNat : Nat) : Int) := by omega
      rw [e, atU_nat]
      rfl)
    obtain ⟨to, hto⟩ : ∃ q, q = t.op := ⟨_, rfl⟩
    obtain ⟨ts, hts⟩ : ∃ q, q = t.sort := ⟨_, rfl⟩
    rw [← hto] at HIV y0
    rw [← hts] at HLK y2
    have lk := HLK.out
    obtain ⟨⟨z0, z1, z2⟩, z3⟩ := HX0.out.1
    clear hM hMU t0 t2 t3 ht hB hF hnode hargs hb0 hX0 hto hts hS HSV q1 q2 q3 q4 hv hsv hz hno hokS hok hlim hcl
    go_enter Tryz.func86, Tryz.ntmps86
    go_wp2_with fail
    rw [← hW]
    clear hW
    refine (HIV.out W y0).mono ?_
    rintro e w1 ⟨rfl, rfl⟩
    go_wp2_with fail
    go_quiet (fail)
    go_wp2
    go_ret
    exact ⟨rfl, below_drewN HB0.out _⟩
  · obtain ⟨hk, h0, h7, har, hac, hna⟩ := node_num hok hnode hv
    have HIV := Lib.hid (fun W (hW : W.cell? ⟨g, o, none⟩ = some (.int .i64 t.op)) => isVar_any g o t.op W hW false (decide_eq_false hv))
    have HSV2 : Hid (sv = sortsA (clo P.length (prs Q)) (O.getD t.op.toNat default).decls (O.getD t.op.toNat default).ass (O.getD t.op.toNat default).com (t.args.map (sortsT (clo P.length (prs Q)) O))) := Lib.hid (by rw [HSV.out, if_neg hv])
    obtain ⟨k, hkk⟩ : ∃ k : Nat, t.op = (k : Int) := ⟨t.op.toNat, by omega⟩
    rw [hkk, Int.toNat_natCast] at hk har hac hna HSV2
    obtain ⟨ge, oe, A2, c2, hA, hge, hcs, hDD, _, _⟩ := ope_at hM.e (j := k) (by rw [hno]; exact hk)
    rw [show ((grM P Q O).E.getD k default).1 = O.getD k default from opE_at hok hk] at hDD hcs
    have HRS : Hid (∀ (x : OpE), x = (grM P Q O).E.getD k default → ∀ (va : Value) W', Below w.heap.size w W' → Has W' va (u16s (t.args.map (sortsT (clo P.length (prs Q)) O))) → Calls Tryz.prog 104 #[.agg #[.map mm, .slice Ao no co, .map um], aggE x.1.name A2 (O.getD k default).decls.length c2 x.1.ass x.1.com x.1.unt x.2.1 x.2.2.1 x.2.2.2.1 x.2.2.2.2.1 x.2.2.2.2.2.1 x.2.2.2.2.2.2, va] W' fun e w' => e = .returned (.int .u16 (sv : Int)) ∧ Below W'.heap.size W' w') := Lib.hid (fun x hx va W' hW' hva => by
      have e1 : x.1 = O.getD k default := by rw [hx]; exact opE_at hok hk
      have hal : (t.args.map (sortsT (clo P.length (prs Q)) O)).length = t.args.length := List.length_map _
      have := resultSorts_any (clo P.length (prs Q)) hlim mm um Ao no co x.1.name A2 (O.getD k default).decls.length c2 x.1.ass x.1.com x.1.unt x.2.1 x.2.2.1 x.2.2.2.1 x.2.2.2.2.1 x.2.2.2.2.2.1 x.2.2.2.2.2.2 (O.getD k default).decls (t.args.map (sortsT (clo P.length (prs Q)) O)) (ar (O.getD k default)) (by rw [hcl]; exact declN hok hk) (fun h => by rw [e1] at h; rw [hal]; exact ⟨(hac h).1, (hac h).2, h7⟩) (by rw [hal]; exact har) (map_getD_lt (_U := []) (fun a _ => sortsT_lt hlim O a)) va W' (hMU.below hW') (hDD.below RD_steady (Nat.le_refl _) hW') hva
      rw [e1, ← HSV2.out] at this
      rw [e1]
      exact this)
    have HSS : Hid (∀ kn, N = kn + 1 → ∀ (x : TermM) (gx ox : Nat) (vx : Value) (W' : World), Below w.heap.size w W' → W'.cell? ⟨gx, ox, none⟩ = some (.int .i64 x.op) → W'.cell? ⟨gx, ox + 2, none⟩ = some (.int .i64 x.sort) → W'.cell? ⟨gx, ox + 3, none⟩ = some vx → HasTs kn lo W' vx x.args → Bnd x → FormS P Q O x → Calls Tryz.prog 86 #[.agg #[.map mm, .slice Ao no co, .map um], .pointer (some ⟨gx, ox, none⟩)] W' fun e w' => e = .returned (.int .u16 ((sortsT (clo P.length (prs Q)) O x : Nat) : Int)) ∧ Below W'.heap.size W' w') := Lib.hid (fun kn e x gx ox vx W' hW' k0 k2 k3 hx hBx hFx => hS kn e mm um Ao no co x gx ox vx W' lo (hM.below hW') (hMU.below hW') k0 k2 k3 hx hBx hFx)
    obtain ⟨x, hx⟩ : ∃ x, x = (grM P Q O).E.getD k default := ⟨_, rfl⟩
    have HRS2 := Lib.hid (HRS.out x hx)
    rw [← hx] at hcs
    obtain ⟨i0, hi, hz0, hz1, hz2⟩ := info_parts info_ns
    have HH0 := Lib.hid ht
    have HAF := Lib.hid hargs
    have HTK := Lib.hid (takeS (clo P.length (prs Q)) O t.args)
    have HLT := Lib.hid (sortsT_lt hlim O)
    obtain ⟨L, hL⟩ : ∃ L, L = t.args := ⟨_, rfl⟩
    obtain ⟨q, hq⟩ : ∃ q, q = t.args.length := ⟨_, rfl⟩
    have HQL : Hid (q = L.length) := Lib.hid (by rw [hq, hL])
    rw [← hL] at HAF HRS2 HTK
    rw [← hq, ← hL] at HH0
    rw [← hq] at HX0 h7
    rw [hkk] at y0 HIV
    obtain ⟨dl, hdl⟩ : ∃ q, q = (O.getD k default).decls.length := ⟨_, rfl⟩
    rw [← hdl] at HRS2 hcs
    obtain ⟨⟨nm, ds, a, b, u⟩, i, s0, s1, s2, s3, s4⟩ := x
    simp only [] at HRS2
    subst hA
    have kW : ∀ {a : Addr} {v : Value}, w.cell? a = some v → W.cell? a = some v := fun {a v} h => (hb0.cell (p := a) (block_lt_of_cell h)).trans h
    have e0 : W.cell? ⟨ge, oe + k * 11, none⟩ = some (.string (bstr nm)) := kW (hcs 0 (by omega))
    have e1 : W.cell? ⟨ge, oe + k * 11 + 1, none⟩ = some (.slice A2 dl c2) := kW (hcs 1 (by omega))
    have e2 : W.cell? ⟨ge, oe + k * 11 + 2, none⟩ = some (.bool a) := kW (hcs 2 (by omega))
    have e3 : W.cell? ⟨ge, oe + k * 11 + 3, none⟩ = some (.bool b) := kW (hcs 3 (by omega))
    have e4 : W.cell? ⟨ge, oe + k * 11 + 4, none⟩ = some (.int .i64 u) := kW (hcs 4 (by omega))
    have e5 : W.cell? ⟨ge, oe + k * 11 + 5, none⟩ = some (.int .i64 (i : Int)) := kW (hcs 5 (by omega))
    have e6 : W.cell? ⟨ge, oe + k * 11 + 6, none⟩ = some (.int .i64 (s0 : Int)) := kW (hcs 6 (by omega))
    have e7 : W.cell? ⟨ge, oe + k * 11 + 7, none⟩ = some (.int .u16 (s1 : Int)) := kW (hcs 7 (by omega))
    have e8 : W.cell? ⟨ge, oe + k * 11 + 8, none⟩ = some (.int .u16 (s2 : Int)) := kW (hcs 8 (by omega))
    have e9 : W.cell? ⟨ge, oe + k * 11 + 9, none⟩ = some (.int .u16 (s3 : Int)) := kW (hcs 9 (by omega))
    have e10 : W.cell? ⟨ge, oe + k * 11 + 10, none⟩ = some (.int .u16 (s4 : Int)) := kW (hcs 10 (by omega))
    have HE := Lib.hid (And.intro y0 (And.intro e0 (And.intro e1 (And.intro e2 (And.intro e3 (And.intro e4 (And.intro e5 (And.intro e6 (And.intro e7 (And.intro e8 (And.intro e9 e10)))))))))))
    have hkno : k < no := by omega
    clear hM hMU t0 t2 t3 ht hB hF hnode hargs hb0 hX0 hS HSV HSV2 HRS q1 q2 q3 q4 hv hsv hz hno hokS hok hlim hcl hkk hcs hDD hx hL hq hdl hk h0 har hac hna kW y2 e0 e1 e2 e3 e4 e5 e6 e7 e8 e9 e10
    obtain ⟨⟨z0, z1, z2⟩, z3⟩ := HX0.out.1
    go_enter Tryz.func86, Tryz.ntmps86
    go_wp2_with fail
    rw [← hW]
    clear hW
    refine (HIV.out W y0).mono ?_
    rintro e w1 ⟨rfl, rfl⟩
    go_wp2_with (at_make; refine wpList_make_own _ rfl _ _ 153 rfl W.heap.size 75 i0 (.int .u16 0) 1 Tryz.underlying153 hi hz0 hz1 _ _ _ q rfl rfl rfl (by rw [hz2]; omega) (by unfold maxLen; omega) (Nat.le_refl _) ?_)
    intro w1 hown hgrow
    have hb1 : Below W.heap.size W w1 := (Below.refl W.heap.size W).grown hgrow (Nat.le_refl _) (by intro k hk; cases hk)
    have HB1 := Lib.hid hb1
    have HOWN := Lib.hid hown
    clear hgrow hown hb1
    have z3' := (HX0.out.of HB1.out).1.2
    clear z0 z1 z2 z3 y0
    go_wp2
    clear z3'
    go_loopw [5, 6, 27] (fun v5 _ v27 wr => ∃ p : Nat, v27 = .int .i64 p ∧ p ≤ q ∧ Hid (wr.ownsRow W.heap.size 75 1 v5 p (u16s ((L.take p).map (sortsT (clo P.length (prs Q)) O)))) ∧ Hid (Below W.heap.size W wr)) (fun _ _ i _ => q - (intOf i).toNat)
    case atStart => exact ⟨0, rfl, Nat.zero_le _, Lib.hid (by simpa [u16s] using HOWN.out), HB1⟩
    case round =>
      obtain ⟨p, rfl, hp, HO, HB⟩ := hrel
      clear HOWN HB1
      have hsz := HB.out.size
      by_cases hlt : p < q
      · obtain ⟨kn, gx, ox, B2, cx, hNk, rfl, _, hgx, f0, _, f2, f3, hxx, hbx⟩ := term_at HH0.out hlt
        have hbw := HB0.out.trans (HB.out.mono HB0.out.size)
        have HBW := Lib.hid hbw
        have hmem : L.getD p default ∈ L := by rw [List.getD_eq_getElem?_getD, List.getElem?_eq_getElem (by have := HQL.out; omega)]; exact List.getElem_mem _
        have hfx := HAF.out _ hmem
        have HTK2 := Lib.hid (HTK.out p (by have := HQL.out; omega))
        have hxl := HLT.out (L.getD p default)
        obtain ⟨x, hx⟩ : ∃ x, x = L.getD p default := ⟨_, rfl⟩
        rw [← hx] at f0 f2 f3 hxx hbx hfx HTK2 hxl
        have HC1 : Hid (∀ W', Below w.heap.size w W' → Calls Tryz.prog 86 #[.agg #[.map mm, .slice (some ⟨ge, oe, none⟩) no co, .map um], .pointer (some ⟨gx, ox + p * 4, none⟩)] W' fun e w' => e = .returned (.int .u16 ((sortsT (clo P.length (prs Q)) O x : Nat) : Int)) ∧ Below W'.heap.size W' w') := Lib.hid (fun W' hW' => HSS.out kn hNk x gx (ox + p * 4) (.slice B2 x.args.length cx) W' hW' ((hW'.cell (p := ⟨gx, ox + p * 4, none⟩) hgx).trans f0) ((hW'.cell (p := ⟨gx, ox + p * 4 + 2, none⟩) hgx).trans f2) ((hW'.cell (p := ⟨gx, ox + p * 4 + 3, none⟩) hgx).trans f3) (hxx.below (Nat.le_refl _) hW') hbx hfx)
        obtain ⟨xv, hxv⟩ : ∃ xv, xv = sortsT (clo P.length (prs Q)) O x := ⟨_, rfl⟩
        rw [← hxv] at HC1 HTK2 hxl
        have HXR := Lib.hid (HX0.out.of HB.out)
        have i1 : (0 : Int) ≤ (p : Int) := by omega
        have i2 : (p : Int) < (q : Int) := by omega
        clear f0 f2 f3 hxx hbx hfx hmem hx hxv hbw
        go_wp2_with fail
        refine wp_region_noPanic ?_
        refine wp_region_held_drew (S := (SNod w.heap.size g o mm um (some ⟨ge, oe, none⟩) no co (.slice (some ⟨gx, ox, none⟩) q cb) W)) (by kernel_rfl) ?_ (fun hHd0 => ?_)
        · exact HX0.out.of (by first | exact HB.out.drew | exact HB2.out | exact HQ1.out _ | exact HB5.out)
        refine wpAnyH_take (i := 0) (v := ?_) rfl (by kernel_rfl) (by kernel_rfl) (by kernel_rfl) (fun _ _ _ h => h) (Or.inl ⟨by rfl, ?_⟩) (by with_reducible assumption) ?_
        rotate_left
        · intro w hSw; (try dsimp only at hSw); go_simp <;> with_reducible rfl
        (try simp only [Act.put]); (try simp only [List.setIfInBounds_toArray]); (try simp only [List.set_cons_succ, List.set_cons_zero])
        refine wpAnyH_take (i := 1) (v := ?_) rfl (by kernel_rfl) (by kernel_rfl) (by kernel_rfl) (fun _ _ _ h => h) (Or.inl ⟨by rfl, ?_⟩) (by with_reducible assumption) ?_
        rotate_left
        · intro w hSw; (try dsimp only at hSw); go_simp <;> with_reducible rfl
        (try simp only [Act.put]); (try simp only [List.setIfInBounds_toArray]); (try simp only [List.set_cons_succ, List.set_cons_zero])
        refine wpAnyH_take (i := 2) (v := ?_) rfl (by kernel_rfl) (by kernel_rfl) (by kernel_rfl) (fun _ _ _ h => h) (Or.inl ⟨by rfl, ?_⟩) (by with_reducible assumption) ?_
        rotate_left
        · intro w hSw; (try dsimp only at hSw); go_simp <;> with_reducible rfl
        (try simp only [Act.put]); (try simp only [List.setIfInBounds_toArray]); (try simp only [List.set_cons_succ, List.set_cons_zero])
        refine wpAnyH_take (i := 3) (v := ?_) rfl (by kernel_rfl) (by kernel_rfl) (by kernel_rfl) (fun _ _ _ h => h) (Or.inl ⟨by rfl, ?_⟩) (by with_reducible assumption) ?_
        rotate_left
        · intro w hSw; (try dsimp only at hSw); go_simp <;> with_reducible rfl
        (try simp only [Act.put]); (try simp only [List.setIfInBounds_toArray]); (try simp only [List.set_cons_succ, List.set_cons_zero])
        refine wpAnyH_take (i := 4) (v := ?_) rfl (by kernel_rfl) (by kernel_rfl) (by kernel_rfl) (fun _ _ _ h => h) (Or.inl ⟨by rfl, ?_⟩) (by with_reducible assumption) ?_
        rotate_left
        · intro w hSw; (try dsimp only at hSw); go_simp <;> with_reducible rfl
        (try simp only [Act.put]); (try simp only [List.setIfInBounds_toArray]); (try simp only [List.set_cons_succ, List.set_cons_zero])
        refine wpAnyH_take (i := 5) (v := ?_) rfl (by kernel_rfl) (by kernel_rfl) (by kernel_rfl) (fun _ _ _ h => h) (Or.inl ⟨by rfl, ?_⟩) (by with_reducible assumption) ?_
        rotate_left
        · intro w hSw; (try dsimp only at hSw); go_simp <;> with_reducible rfl
        (try simp only [Act.put]); (try simp only [List.setIfInBounds_toArray]); (try simp only [List.set_cons_succ, List.set_cons_zero])
        refine wpAnyH_take (i := 6) (v := ?_) rfl (by kernel_rfl) (by kernel_rfl) (by kernel_rfl) (fun _ _ _ h => h) (Or.inl ⟨by rfl, ?_⟩) (by with_reducible assumption) ?_
        rotate_left
        · intro w hSw; (try dsimp only at hSw); go_simp <;> with_reducible rfl
        (try simp only [Act.put]); (try simp only [List.setIfInBounds_toArray]); (try simp only [List.set_cons_succ, List.set_cons_zero])
        refine wpAnyH_take (i := 7) (v := ?_) rfl (by kernel_rfl) (by kernel_rfl) (by kernel_rfl) (fun _ _ _ h => h) (Or.inl ⟨by rfl, ?_⟩) (by with_reducible assumption) ?_
        rotate_left
        · intro w hSw; (try dsimp only at hSw); go_simp <;> with_reducible rfl
        (try simp only [Act.put]); (try simp only [List.setIfInBounds_toArray]); (try simp only [List.set_cons_succ, List.set_cons_zero])
        refine wpAnyH_ready (rs := [8]) (by kernel_rfl) (by simp) ?_
        refine AllReadyH.cons (o := _) rfl (fun K hK => ?_) ?_
        · (go_simp; refine (HC1.out _ HBW.out.drew).mono ?_; rintro e w2 ⟨rfl, hb2⟩; have HB2 : Hid (Below W.heap.size W w2) := Lib.hid (HB.out.drew.trans (hb2.mono hsz)); have HO2 := Lib.hid (own_below HO.out (show Below wr.heap.size wr w2 from (Below.refl _ _).drew.trans hb2)); clear hb2; have HQ1 : Hid (∀ ob, Below W.heap.size W (w2.alloc ob)) := Lib.hid (fun ob => HB2.out.alloc HB2.out.size ob); have HQ2 : Hid (∀ ob, Below w2.heap.size w2 (w2.alloc ob)) := Lib.hid (fun ob => (Below.refl _ _).alloc (Nat.le_refl _) ob); have HQ3 : Hid (∀ ob, W.heap.size ≤ (w2.alloc ob).heap.size) := Lib.hid (fun ob => (HQ1.out ob).size); (try dsimp only))
          refine hK.out _ _ ?_ (fun hHd1 => ?_)
          · (try dsimp only); exact HX0.out.of (by first | exact HB.out.drew | exact HB2.out | exact HQ1.out _ | exact HB5.out)
          clear hK K hHd0
          (try simp only [Act.put]); (try simp only [List.setIfInBounds_toArray]); (try simp only [List.set_cons_succ, List.set_cons_zero])
          refine wpAnyH_ready (rs := [9]) (by kernel_rfl) (by simp) ?_
          refine AllReadyH.cons (o := _) rfl (fun K hK => ?_) ?_
          · go_simp
            refine hK.out _ _ ?_ (fun hHd2 => ?_)
            · (try dsimp only); exact HX0.out.of (by first | exact HB.out.drew | exact HB2.out | exact HQ1.out _ | exact HB5.out)
            clear hK K hHd1
            (try simp only [Act.put]); (try simp only [List.setIfInBounds_toArray]); (try simp only [List.set_cons_succ, List.set_cons_zero])
            refine wpAnyH_ready (rs := [10]) (by kernel_rfl) (by simp) ?_
            refine AllReadyH.cons (o := _) rfl (fun K hK => ?_) ?_
            · (refine step_append_any (by rfl) _ _ _ (by rfl) W.heap.size 75 i0 (.int .u16 0) 1 2 Tryz.underlying153 hi hz0 hz1 hz2 rfl (by omega) _ p _ (by rfl) (own_below HO2.out (HQ2.out _)) ⟨w2.heap.size, 0, none⟩ 1 1 [.int .u16 (xv : Int)] (by rfl) (by omega) (by rfl) (one_cell _ _ _) (one_one _ rfl) (by unfold maxLen; omega) (by omega) (HQ3.out _) ?_; intro g4 cap4 w5 hown5 hgr5 hg5 hlt5; have HB5 : Hid (Below W.heap.size W w5) := Lib.hid ((HQ1.out _).grown hgr5 (HQ3.out _) (own_block HO2.out)); clear hgr5 hg5 hlt5)
              refine hK.out _ _ ?_ (fun hHd3 => ?_)
              · (try dsimp only); exact HX0.out.of (by first | exact HB.out.drew | exact HB2.out | exact HQ1.out _ | exact HB5.out)
              clear hK K hHd2
              (try simp only [Act.put]); (try simp only [List.setIfInBounds_toArray]); (try simp only [List.set_cons_succ, List.set_cons_zero])
              refine wpAnyH_take (i := 11) (v := ?_) rfl (by kernel_rfl) (by kernel_rfl) (by kernel_rfl) (fun _ _ _ h => h) (Or.inl ⟨by rfl, ?_⟩) (by with_reducible assumption) ?_
              rotate_left
              · intro w hSw; (try dsimp only at hSw); go_simp <;> with_reducible rfl
              (try simp only [Act.put]); (try simp only [List.setIfInBounds_toArray]); (try simp only [List.set_cons_succ, List.set_cons_zero])
              refine wpAnyH_done (by kernel_rfl) ?_ _
              refine NoPanic.normal ?_
              have HO6 : Hid (w5.ownsRow W.heap.size 75 1 (.slice (some ⟨g4, 0, none⟩) (p + 1) cap4) (p + 1) (u16s ((L.take (p + 1)).map (sortsT (clo P.length (prs Q)) O)))) := Lib.hid (by rw [HTK2.out, u16s_snoc]; exact hown5)
              clear hown5
              go_wp2
              go_roundw
              case rel => exact ⟨p + 1, by go_num, by omega, HO6, HB5⟩
              case measure => simp [intOf]; omega
            exact AllReadyH.nil
          exact AllReadyH.nil
        exact AllReadyH.nil
      · obtain rfl : p = q := by omega
        have HLL : Hid ((L.take p).map (sortsT (clo P.length (prs Q)) O) = L.map (sortsT (clo P.length (prs Q)) O)) := Lib.hid (by rw [HQL.out, List.take_length])
        have ho := HO.out
        rw [HLL.out] at ho
        obtain ⟨Ar, cr, rfl, _⟩ := own_slice ho
        have HHA := Lib.hid (Has.of_own ho)
        have HC2 := Lib.hid (fun (t : BoxC (Below wr.heap.size wr)) => HRS2.out (.slice Ar p cr) t.W (HB0.out.trans ((HB.out.trans (t.h.mono hsz)).mono HB0.out.size)) (HHA.out.below (Nat.le_refl _) t.h))
        obtain ⟨⟨⟨x0, x1, x2⟩, _⟩, _⟩ := HX0.out.of HB.out
        obtain ⟨y0, e0, e1, e2, e3, e4, e5, e6, e7, e8, e9, e10⟩ := HE.out
        have kr : ∀ {g y : Nat} {v : Value}, W.cell? ⟨g, y, none⟩ = some v → ∀ t : BoxC (Below wr.heap.size wr), t.W.cell? ⟨g, y, none⟩ = some v := fun {g y v} h t => by
          have h1 := (HB.out.cell (p := ⟨g, y, none⟩) (block_lt_of_cell h)).trans h
          exact t.cell h1 (block_lt_of_cell h1)
        have kx : ∀ {g y : Nat} {v : Value}, wr.cell? ⟨g, y, none⟩ = some v → ∀ t : BoxC (Below wr.heap.size wr), t.W.cell? ⟨g, y, none⟩ = some v := fun {g y v} h t => t.cell h (block_lt_of_cell h)
        have r0 := kx x0
        have r1 := kx x1
        have r2 := kx x2
        have ry := kr y0
        have g0 := kr e0
        have g1 := kr e1
        have g2 := kr e2
        have g3 := kr e3
        have g4 := kr e4
        have g5 := kr e5
        have g6 := kr e6
        have g7 := kr e7
        have g8 := kr e8
        have g9 := kr e9
        have g10 := kr e10
        have nb : Nonempty (BoxC (Below wr.heap.size wr)) := ⟨⟨_, Below.refl _ _⟩⟩
        have i1 : (0 : Int) ≤ (k : Int) := by omega
        have i2 : (k : Int) < (no : Int) := by omega
        have HBF : Hid (∀ t : BoxC (Below wr.heap.size wr), Below w.heap.size w t.W) := Lib.hid (fun t => HB0.out.trans ((HB.out.trans (t.h.mono hsz)).mono HB0.out.size))
        clear kr kx x0 x1 x2 y0 e0 e1 e2 e3 e4 e5 e6 e7 e8 e9 e10 ho
        go_wp2_with fail
        refine region_boxC (C := Below wr.heap.size wr) (by kernel_rfl) (by kernel_rfl) (Below.refl _ _).drew ?_
        repeat (go_big_quiet_step ((go_at_call 104; exact (HC2.out _).mono (fun _ _ h => ⟨h.1, BoxC.step _ h.2⟩))))
        refine wpQuiet_nil ?_
        rintro w5 ⟨t5, rfl⟩
        clear r0 r1 r2 ry g0 g1 g2 g3 g4 g5 g6 g7 g8 g9 g10 nb HC2
        go_wp2
        go_ret
        exact ⟨rfl, HBF.out t5⟩
theorem nodC_all (P : List (List UInt8)) (Q : List (Int × Int)) (O : List OpM) (hok : sigOk P Q O = true) : ∀ n, NodC P Q O n
  | 0 => nodC_step P Q O hok (fun k h => by omega)
  | n + 1 => nodC_step P Q O hok (fun k h => Nat.succ.inj h ▸ nodC_all P Q O hok n)
end Go.Proofs.YtjejdcehlckfhaaGreat.tsn
/-
  impl.sortRulesOf.
-/
namespace Go.Proofs.YtjejdcehlckfhaaGreat.tso
open Go.ChangeShapes Go.WideShapes Go.ChangeAt Go.RowKit
open mem dec split strl subs sortn setm sets sortm sortp sorti sortg rowl sigm sigi sigs sigk trm trmv terml termb termt termx rowg gram gramo tsa tsm tsi tsj tsk tsl

theorem mapU_shapeH {w : World} {v : Value} {U : List Nat} (h : MapU w v U) : ∃ mm, v = .map mm := by
  rcases h with ⟨rfl, _⟩ | ⟨b, _, _, rfl, _⟩
  · exact ⟨none, rfl⟩
  · exact ⟨some b, rfl⟩
/-- a block without numbers and strings turns: what is read elsewhere stays -/
structure Apart (y : Nat) (w w' : World) : Prop where
  size : w.heap.size ≤ w'.heap.size
  block : ∀ g, g ≠ y → w'.heap[g]? = w.heap[g]?
  noInt : ∀ o k n, w.cell? ⟨y, o, none⟩ ≠ some (.int k n)
  noStr : ∀ o b, w.cell? ⟨y, o, none⟩ ≠ some (.string b)
  noMap : ∀ es c, w.heap[y]? ≠ some (Obj.map es c)
theorem Apart.cell {y : Nat} {w w' : World} (h : Apart y w w') {g o : Nat} (hg : g ≠ y) : w'.cell? ⟨g, o, none⟩ = w.cell? ⟨g, o, none⟩ := World.cell?_of_block (w := w) (h.block g hg)
theorem HasL.apart {lo y : Nat} {w w' : World} {v : Value} {L : List Int} (h : HasL lo w v (ivs L)) (hA : Apart y w w') : HasL lo w' v (ivs L) := by
  obtain ⟨A, c, rfl, h1, h2, h3⟩ := h
  refine ⟨A, c, rfl, h1, h2, fun j u hu => ?_⟩
  obtain ⟨g, o, e, hl, hg, hc⟩ := h3 j u hu
  have hgy : g ≠ y := fun e => by
    subst e
    have hj := (List.getElem?_eq_some_iff.1 hu).1
    rw [ivs_len] at hj
    have : u = .int .i64 (L[j]) := by
      have := hu
      simp [ivs, List.getElem?_eq_getElem hj] at this
      exact this.symm
    rw [this] at hc
    exact hA.noInt _ _ _ hc
  exact ⟨g, o, e, hl, Nat.lt_of_lt_of_le hg hA.size, (hA.cell hgy).trans hc⟩
theorem HasD.apart {lo y : Nat} {w w' : World} {v : Value} {L : List (List Int × Int)} (h : HasD lo w v L) (hA : Apart y w w') : HasD lo w' v L := by
  obtain ⟨A, c, rfl, h1, h2, h3⟩ := h
  refine ⟨A, c, rfl, h1, h2, fun j hj => ?_⟩
  obtain ⟨g, o, cs, e, hl, hg, hc, va, hcs, hh, h4, h5⟩ := h3 j hj
  have hgy : g ≠ y := fun e => by
    subst e
    have := hc 1 (by omega)
    rw [hcs] at this
    exact hA.noInt _ _ _ this
  exact ⟨g, o, cs, e, hl, Nat.lt_of_lt_of_le hg hA.size, fun i hi => (hA.cell hgy).trans (hc i hi), va, hcs, HasL.apart hh hA, h4, h5⟩
theorem HasE.apart {y : Nat} {w w' : World} {v : Value} {L : List OpE} (h : HasE w v L) (hA : Apart y w w') : HasE w' v L := by
  obtain ⟨A, c, rfl, h1, h2, h3⟩ := h
  refine ⟨A, c, rfl, h1, h2, fun j hj => ?_⟩
  obtain ⟨g, o, cs, e, hl, hg, hc, vd, hcs, hh, h4, h5⟩ := h3 j hj
  have hgy : g ≠ y := fun e => by
    subst e
    have := hc 0 (by omega)
    rw [hcs] at this
    exact hA.noStr _ _ this
  exact ⟨g, o, cs, e, hl, Nat.lt_of_lt_of_le hg hA.size, fun i hi => (hA.cell hgy).trans (hc i hi), vd, hcs, HasD.apart hh hA, h4, h5⟩
theorem HasM.apart {y : Nat} {w w' : World} {mv sv : Value} {G : GrM} (h : HasM w mv sv G) (hA : Apart y w w') : HasM w' mv sv G :=
  ⟨mapU_blk h.m (fun b es c hb => hA.block b (fun e => hA.noMap es c (e ▸ hb))), HasE.apart h.e hA⟩
theorem apart_set {y : Nat} {w : World} {a b : Option Nat} {s : Option Addr} {n c : Nat} {t : TypeId} (h : w.heap[y]? = some (.cells #[.map a, .slice s n c, .map b] t (0, 0))) (u0 u1 u2 : Value) :
    Apart y w (((w.setCell ⟨y, 0, none⟩ u0).setCell ⟨y, 1, none⟩ u1).setCell ⟨y, 2, none⟩ u2) := by
  have hc : ∀ o x, w.cell? ⟨y, o, none⟩ = some x → x = .map a ∨ x = .slice s n c ∨ x = .map b := fun o x hx => by
    match o, hx with
    | 0, hx => rw [cell_of_row w y 0 _ _ _ h] at hx; exact .inl (by simpa using hx.symm)
    | 1, hx => rw [cell_of_row w y 1 _ _ _ h] at hx; exact .inr (.inl (by simpa using hx.symm))
    | 2, hx => rw [cell_of_row w y 2 _ _ _ h] at hx; exact .inr (.inr (by simpa using hx.symm))
    | o + 3, hx => rw [cell_of_row w y (o + 3) _ _ _ h] at hx; simp at hx
  refine ⟨by simp [World.setCell], fun g hg => ?_, fun o k m hx => ?_, fun o b hx => ?_, fun es c' hx => ?_⟩
  · exact (Below.heap_setCell _ ⟨y, 2, none⟩ _ g hg).trans ((Below.heap_setCell _ ⟨y, 1, none⟩ _ g hg).trans (Below.heap_setCell _ ⟨y, 0, none⟩ _ g hg))
  · rcases hc o _ hx with e | e | e <;> cases e
  · rcases hc o _ hx with e | e | e <;> cases e
  · rw [h] at hx; cases hx
abbrev SRul (x : Nat) (v0 v1 v2 : Value) (B : Nat) (W w : World) : Prop := (w.cell? ⟨x, 0, none⟩ = some v0 ∧ w.cell? ⟨x, 1, none⟩ = some v1 ∧ w.cell? ⟨x, 2, none⟩ = some v2) ∧ Below B W w
theorem SRul.of {x : Nat} {v0 v1 v2 : Value} {B : Nat} {W w : World} (h : SRul x v0 v1 v2 B W W) (hx : x < B) (hb : Below B W w) : SRul x v0 v1 v2 B W w := by
  have k : ∀ z, w.cell? ⟨x, z, none⟩ = W.cell? ⟨x, z, none⟩ := fun z => hb.cell (p := ⟨x, z, none⟩) hx
  refine ⟨?_, hb⟩
  rw [k, k, k]
  exact h.1
set_option maxRecDepth 50000 in
set_option maxHeartbeats 8000000 in
/-- impl.sortRulesOf -/
theorem rules_any (P : List (List UInt8)) (Q : List (Int × Int)) (O : List OpM) (va vb vc : Value) (w : World) (h : HasG w va vb vc P Q O) :
    Calls Tryz.prog 40 #[.agg #[va, vb, vc]] w fun e w' => ∃ mm A c um, e = .returned (.agg #[.map mm, .slice A (grM P Q O).E.length c, .map um]) ∧ HasM w' (.map mm) (.slice A (grM P Q O).E.length c) (grM P Q O) ∧ MapU w' (.map um) (ordU P Q) ∧ Below w.heap.size w w' := by
  have HGR := Lib.hid (fun W (hW : Below w.heap.size w W) => grammarOf_any P Q O va vb vc W (h.below (Nat.le_refl _) hW))
  have HSO := Lib.hid (fun W (hW : Below w.heap.size w W) => sortOrder_any P Q va vb W (h.s.below (Nat.le_refl _) hW))
  obtain ⟨A1, c1, A2, c2, A3, c3, rfl, rfl, rfl, _⟩ := h.shape
  obtain ⟨m1, hm1⟩ : ∃ q, q = P.length := ⟨_, rfl⟩
  obtain ⟨m2, hm2⟩ : ∃ q, q = Q.length := ⟨_, rfl⟩
  obtain ⟨m3, hm3⟩ : ∃ q, q = O.length := ⟨_, rfl⟩
  rw [← hm1, ← hm2, ← hm3] at HGR ⊢
  rw [← hm1, ← hm2] at HSO
  obtain ⟨G, hG⟩ : ∃ G, G = grM P Q O := ⟨_, rfl⟩
  rw [← hG] at HGR ⊢
  obtain ⟨U, hU⟩ : ∃ U, U = ordU P Q := ⟨_, rfl⟩
  rw [← hU] at HSO ⊢
  clear h hm1 hm2 hm3 hG hU
  obtain ⟨W, hW⟩ : ∃ W, W = (w.alloc (.cells #[.slice A1 m1 c1, .slice A2 m2 c2, .slice A3 m3 c3] 40)).alloc (.cells #[.map none, .slice none 0 0, .map none] 82) := ⟨_, rfl⟩
  have hb0 : Below w.heap.size w W := by
    rw [hW]
    repeat (first | exact Below.refl _ _ | refine Below.alloc ?_ (by first | (simp; done) | (simp; omega)) _)
  have hX0 : SRul w.heap.size (.slice A1 m1 c1) (.slice A2 m2 c2) (.slice A3 m3 c3) (w.heap.size + 1) W W := by
    rw [hW]
    exact ⟨tsl.box3 (tsl.heap2a _ _ _), Below.refl _ _⟩
  have hy0 : W.heap[w.heap.size + 1]? = some (.cells #[.map none, .slice none 0 0, .map none] 82 (0, 0)) := by rw [hW]; exact termt.heap_at _ _ _ (by simp)
  have hz : W.heap.size = w.heap.size + 2 := by rw [hW]; simp
  have HB0 := Lib.hid hb0
  have HX0 := Lib.hid hX0
  have HY0 := Lib.hid hy0
  have HZ := Lib.hid hz
  obtain ⟨x0, x1, x2⟩ := hX0.1
  clear hb0 hX0 hy0 hz
  go_enter Tryz.func40, Tryz.ntmps40
  go_wp2_with fail
  rw [← hW]
  clear hW
  refine wp_region_noPanic ?_
  refine wp_region_held_drew (S := (SRul w.heap.size (.slice A1 m1 c1) (.slice A2 m2 c2) (.slice A3 m3 c3) (w.heap.size + 1) W)) (by kernel_rfl) ?_ (fun hHd0 => ?_)
  · exact HX0.out.of (Nat.lt_succ_self _) (by first | exact (Below.refl _ _).drew | exact HB1.out.mono (by rw [HZ.out]; omega) | exact HB2.out.mono (by rw [HZ.out]; omega) | exact HST.out _ _ _)
  refine wpAnyH_take (i := 0) (v := ?_) rfl (by kernel_rfl) (by kernel_rfl) (by kernel_rfl) (fun _ _ _ h => h) (Or.inl ⟨by rfl, ?_⟩) (by with_reducible assumption) ?_
  rotate_left
  · intro w hSw; (try dsimp only at hSw); go_simp <;> with_reducible rfl
  (try simp only [Act.put]); (try simp only [List.setIfInBounds_toArray]); (try simp only [List.set_cons_succ, List.set_cons_zero])
  refine wpAnyH_take (i := 2) (v := ?_) rfl (by kernel_rfl) (by kernel_rfl) (by kernel_rfl) (fun _ _ _ h => h) (Or.inl ⟨by rfl, ?_⟩) (by with_reducible assumption) ?_
  rotate_left
  · intro w hSw; (try dsimp only at hSw); go_simp <;> with_reducible rfl
  (try simp only [Act.put]); (try simp only [List.setIfInBounds_toArray]); (try simp only [List.set_cons_succ, List.set_cons_zero])
  refine wpAnyH_take (i := 3) (v := ?_) rfl (by kernel_rfl) (by kernel_rfl) (by kernel_rfl) (fun _ _ _ h => h) (Or.inl ⟨by rfl, ?_⟩) (by with_reducible assumption) ?_
  rotate_left
  · intro w hSw; (try dsimp only at hSw); go_simp <;> with_reducible rfl
  (try simp only [Act.put]); (try simp only [List.setIfInBounds_toArray]); (try simp only [List.set_cons_succ, List.set_cons_zero])
  refine wpAnyH_ready (rs := [1]) (by kernel_rfl) (by simp) ?_
  refine AllReadyH.cons (o := _) rfl (fun K hK => ?_) ?_
  · (go_simp; refine (HGR.out W.drew HB0.out.drew).mono ?_; rintro e w1 ⟨mv, A, c, rfl, hM, hmv, hb1⟩; obtain ⟨mm, rfl⟩ := mapU_shapeH hM.m; have HM := Lib.hid hM; have HB1 : Hid (Below W.heap.size W w1) := Lib.hid ((Below.refl _ _).drew.trans hb1); have HB1w : Hid (Below w.heap.size w w1) := Lib.hid (HB0.out.trans (HB1.out.mono HB0.out.size)); clear hM hb1 hmv; (try dsimp only))
    refine hK.out _ _ ?_ (fun hHd1 => ?_)
    · (try dsimp only); exact HX0.out.of (Nat.lt_succ_self _) (by first | exact (Below.refl _ _).drew | exact HB1.out.mono (by rw [HZ.out]; omega) | exact HB2.out.mono (by rw [HZ.out]; omega) | exact HST.out _ _ _)
    clear hK K hHd0
    (try simp only [Act.put]); (try simp only [List.setIfInBounds_toArray]); (try simp only [List.set_cons_succ, List.set_cons_zero])
    refine wpAnyH_ready (rs := [4]) (by kernel_rfl) (by simp) ?_
    refine AllReadyH.cons (o := _) rfl (fun K hK => ?_) ?_
    · (go_simp; refine (HSO.out w1 HB1w.out).mono ?_; rintro e w2 ⟨uv, rfl, hU, _, _, hb2⟩; obtain ⟨um, rfl⟩ := mapU_shapeH hU; have HU := Lib.hid hU; have HB2 : Hid (Below W.heap.size W w2) := Lib.hid (HB1.out.trans (hb2.mono HB1.out.size)); have HB2w : Hid (Below w.heap.size w w2) := Lib.hid (HB0.out.trans (HB2.out.mono HB0.out.size)); have HM2 := Lib.hid (HM.out.below hb2); have HY2 : Hid (w2.heap[w.heap.size + 1]? = some (.cells #[.map none, .slice none 0 0, .map none] 82 (0, 0))) := Lib.hid ((HB2.out.block _ (by rw [HZ.out]; omega)).trans HY0.out); have d0 := cell_of_row w2 _ 0 _ _ _ HY2.out; have d1 := cell_of_row w2 _ 1 _ _ _ HY2.out; have d2 := cell_of_row w2 _ 2 _ _ _ HY2.out; have f0 := frozen_of_row w2 _ 0 _ _ HY2.out; have f1 := frozen_of_row w2 _ 1 _ _ HY2.out; have f2 := frozen_of_row w2 _ 2 _ _ HY2.out; have HST : Hid (∀ u0 u1 u2, Below (w.heap.size + 1) W (((w2.setCell ⟨w.heap.size + 1, 0, none⟩ u0).setCell ⟨w.heap.size + 1, 1, none⟩ u1).setCell ⟨w.heap.size + 1, 2, none⟩ u2)) := Lib.hid (fun u0 u1 u2 => (((HB2.out.mono (B' := w.heap.size + 1) (by rw [HZ.out]; omega)).setCell (p := ⟨w.heap.size + 1, 0, none⟩) (Nat.le_refl _) u0).setCell (p := ⟨w.heap.size + 1, 1, none⟩) (Nat.le_refl _) u1).setCell (p := ⟨w.heap.size + 1, 2, none⟩) (Nat.le_refl _) u2); clear hU hb2; (try dsimp only))
      refine hK.out _ _ ?_ (fun hHd2 => ?_)
      · (try dsimp only); exact HX0.out.of (Nat.lt_succ_self _) (by first | exact (Below.refl _ _).drew | exact HB1.out.mono (by rw [HZ.out]; omega) | exact HB2.out.mono (by rw [HZ.out]; omega) | exact HST.out _ _ _)
      clear hK K hHd1
      (try simp only [Act.put]); (try simp only [List.setIfInBounds_toArray]); (try simp only [List.set_cons_succ, List.set_cons_zero])
      refine wpAnyH_take (i := 5) (v := ?_) rfl (by kernel_rfl) (by kernel_rfl) (by kernel_rfl) (fun _ _ _ h => h) (Or.inl ⟨by rfl, ?_⟩) (by with_reducible assumption) ?_
      rotate_left
      · intro w hSw; (try dsimp only at hSw); go_simp <;> with_reducible rfl
      (try simp only [Act.put]); (try simp only [List.setIfInBounds_toArray]); (try simp only [List.set_cons_succ, List.set_cons_zero])
      refine wpAnyH_ready (rs := [6]) (by kernel_rfl) (by simp) ?_
      refine AllReadyH.cons (o := _) rfl (fun K hK => ?_) ?_
      · go_simp
        refine hK.out _ _ ?_ (fun hHd3 => ?_)
        · (try dsimp only); exact HX0.out.of (Nat.lt_succ_self _) (by first | exact (Below.refl _ _).drew | exact HB1.out.mono (by rw [HZ.out]; omega) | exact HB2.out.mono (by rw [HZ.out]; omega) | exact HST.out _ _ _)
        clear hK K hHd2
        (try simp only [Act.put]); (try simp only [List.setIfInBounds_toArray]); (try simp only [List.set_cons_succ, List.set_cons_zero])
        refine wpAnyH_done (by kernel_rfl) ?_ _
        refine NoPanic.normal ?_
        have HA := Lib.hid (apart_set HY2.out (.map mm) (.slice A G.E.length c) (.map um))
        have HR : Hid (HasM (((w2.setCell ⟨w.heap.size + 1, 0, none⟩ (.map mm)).setCell ⟨w.heap.size + 1, 1, none⟩ (.slice A G.E.length c)).setCell ⟨w.heap.size + 1, 2, none⟩ (.map um)) (.map mm) (.slice A G.E.length c) G ∧ MapU (((w2.setCell ⟨w.heap.size + 1, 0, none⟩ (.map mm)).setCell ⟨w.heap.size + 1, 1, none⟩ (.slice A G.E.length c)).setCell ⟨w.heap.size + 1, 2, none⟩ (.map um)) (.map um) U ∧ Below w.heap.size w (((w2.setCell ⟨w.heap.size + 1, 0, none⟩ (.map mm)).setCell ⟨w.heap.size + 1, 1, none⟩ (.slice A G.E.length c)).setCell ⟨w.heap.size + 1, 2, none⟩ (.map um))) := Lib.hid ⟨HasM.apart HM2.out HA.out, mapU_blk HU.out (fun b es c hb => HA.out.block b (fun e => HA.out.noMap es c (e ▸ hb))), HB0.out.trans ((HST.out _ _ _).mono (by omega))⟩
        have hsz2 : w.heap.size + 1 < w2.heap.size := by have := HB2.out.size; rw [HZ.out] at this; omega
        go_wp2
        refine bodyPost_ret (v := .agg #[.map mm, .slice A G.E.length c, .map um]) (by simp [results, Tryz.results40, go_sem, d0, d1, d2]) rfl ?_
        exact ⟨mm, A, c, um, rfl, HR.out⟩
      exact AllReadyH.nil
    exact AllReadyH.nil
  exact AllReadyH.nil
end Go.Proofs.YtjejdcehlckfhaaGreat.tso
/-
  impl.sortRulesOf, sortRules.sortsOf, impl.SortsOf.
-/
namespace Go.Proofs.YtjejdcehlckfhaaGreat.tso
open Go.ChangeShapes Go.WideShapes Go.ChangeAt Go.RowKit
open mem dec split strl subs sortn setm sets sortm sortp sorti sortg rowl sigm sigs sigk trm trmv terml termb termt termx termro termvr rowg gram gramo gramk gramc gramn gramt formnd formk formr formf formt formm frm grami tsa tsm tsi tsj tsk tsl tsn

/-- the sorts of a tree: none if it is no term -/
noncomputable def sortsZ (P : List (List UInt8)) (Q : List (Int × Int)) (O : List OpM) (t : TermM) (z : Bool) : Nat := if z = true then sortsT (clo P.length (prs Q)) O t else 0
abbrev SSrt (x y : Nat) (v0 v1 v2 u0 u1 u2 u3 : Value) (W w : World) : Prop := Box34 x y v0 v1 v2 u0 u1 u2 u3 w ∧ Below W.heap.size W w
set_option maxRecDepth 50000 in
set_option maxHeartbeats 8000000 in
/-- sortRules.sortsOf -/
theorem sortsOf_any {N lo : Nat} (P : List (List UInt8)) (Q : List (Int × Int)) (O : List OpM) (mm um : Option Nat) (A : Option Addr) (no c : Nat) (t : TermM) (ve : Value) (w : World) (hM : HasM w (.map mm) (.slice A no c) (grM P Q O)) (hU : MapU w (.map um) (ordU P Q)) (ht : HasTs N lo w ve t.args) (hB : Bnd t) (hsz : sizes t.args ≤ 1048576) (z : Bool) (hz : z = true ↔ STerm P Q O t) :
    Calls Tryz.prog 41 #[.agg #[.map mm, .slice A no c, .map um], aggT t ve] w fun e w' => e = .returned (.int .u16 ((sortsZ P Q O t z : Nat) : Int)) ∧ Below w.heap.size w w' := by
  have hno := (hM.e.len).1
  have HIT : Hid (∀ W, Below w.heap.size w W → Calls Tryz.prog 60 #[.agg #[.map mm, .slice A no c], aggT t ve] W fun e w' => e = .returned (.bool z) ∧ Below W.heap.size W w') := Lib.hid (fun W hW => by
    refine (isTerm_any (grM P Q O) (grOk_gr P Q O) (.map mm) A no c t ve W (hM.below hW) hno (ht.below (Nat.le_refl _) hW) hB hsz).mono ?_
    rintro e w' ⟨r, rfl, hr, hb⟩
    have : r = z := by
      rw [Bool.eq_iff_iff, hr, hz, STerm]
      exact gterm_iff t
    exact ⟨by rw [this], hb⟩)
  obtain ⟨B, cb, rfl, _⟩ := HasR.shape ht rfl
  have HND : Hid (z = true → ∀ W (g o : Nat), Below w.heap.size w W → W.cell? ⟨g, o, none⟩ = some (.int .i64 t.op) → W.cell? ⟨g, o + 2, none⟩ = some (.int .i64 t.sort) → W.cell? ⟨g, o + 3, none⟩ = some (.slice B t.args.length cb) → Calls Tryz.prog 86 #[.agg #[.map mm, .slice A no c, .map um], .pointer (some ⟨g, o, none⟩)] W fun e w' => e = .returned (.int .u16 ((sortsT (clo P.length (prs Q)) O t : Nat) : Int)) ∧ Below W.heap.size W w') := Lib.hid (fun hzt W g o hW h0 h2 h3 => by
    have hs := hz.1 hzt
    have hokS := (sigOk_parts hs.1).1
    exact nodC_all P Q O hs.1 N mm um A no c t g o _ W lo (hM.below hW) ((ordU_yes hokS) ▸ (hU.below hW)) h0 h2 h3 (ht.below (Nat.le_refl _) hW) hB hs.2.2)
  have HSZ1 : Hid (z = true → sortsZ P Q O t z = sortsT (clo P.length (prs Q)) O t) := Lib.hid (fun h => by rw [sortsZ, if_pos h])
  have HSZ0 : Hid (z = false → sortsZ P Q O t z = 0) := Lib.hid (fun h => by rw [sortsZ, if_neg (by rw [h]; simp)])
  obtain ⟨sz, hsz'⟩ : ∃ q, q = sortsZ P Q O t z := ⟨_, rfl⟩
  rw [← hsz'] at HSZ1 HSZ0 ⊢
  obtain ⟨sv, hsv⟩ : ∃ q, q = sortsT (clo P.length (prs Q)) O t := ⟨_, rfl⟩
  rw [← hsv] at HSZ1 HND
  unfold aggT at HIT ⊢
  obtain ⟨q, hq⟩ : ∃ q, q = t.args.length := ⟨_, rfl⟩
  obtain ⟨to, hto⟩ : ∃ q, q = t.op := ⟨_, rfl⟩
  obtain ⟨tn, htn⟩ : ∃ q, q = t.name := ⟨_, rfl⟩
  obtain ⟨ts, hts⟩ : ∃ q, q = t.sort := ⟨_, rfl⟩
  rw [← hq, ← hto, ← htn, ← hts] at HIT ⊢
  rw [← hq, ← hto, ← hts] at HND
  clear hM hU ht hB hsz hz hq hto htn hts hno hsz' hsv
  obtain ⟨W, hW⟩ : ∃ W, W = (w.alloc (.cells #[.map mm, .slice A no c, .map um] 82)).alloc (.cells #[.int .i64 to, .string (bstr tn), .int .i64 ts, .slice B q cb] 44) := ⟨_, rfl⟩
  have hb0 : Below w.heap.size w W := by
    rw [hW]
    repeat (first | exact Below.refl _ _ | refine Below.alloc ?_ (by first | (simp; done) | (simp; omega)) _)
  have hX0 : Box34 w.heap.size (w.heap.size + 1) (.map mm) (.slice A no c) (.map um) (.int .i64 to) (.string (bstr tn)) (.int .i64 ts) (.slice B q cb) W := by
    rw [hW]
    exact ⟨tsl.box3 (tsl.heap2a _ _ _), box4 (termt.heap_at _ _ _ (by simp))⟩
  have HX := Lib.hid hX0
  have HB0 := Lib.hid hb0
  obtain ⟨⟨x0, x1, x2⟩, y0, y1, y2, y3⟩ := hX0
  clear hb0
  go_enter Tryz.func41, Tryz.ntmps41
  go_wp2_with fail
  rw [← hW]
  clear hW
  go_wp2_with fail
  refine (HIT.out _ HB0.out).mono ?_
  rintro e w1 ⟨rfl, hb1⟩
  have HB1 := Lib.hid (HB0.out.trans (hb1.mono HB0.out.size))
  have HX1 := Lib.hid (Box34.below HX.out hb1)
  clear hb1 x0 x1 x2 y0 y1 y2 y3
  obtain ⟨⟨x0, x1, x2⟩, y0, y1, y2, y3⟩ := HX1.out
  cases z with
  | false =>
    have HQ : Hid (sz = 0) := Lib.hid (HSZ0.out (by trivial))
    go_wp2
    go_ret
    exact ⟨ret_int (by rw [HQ.out]; rfl), HB1.out⟩
  | true =>
    have HQ : Hid (sz = sv) := Lib.hid (HSZ1.out (by trivial))
    go_wp2_with fail
    refine (HND.out (by trivial) w1 (w.heap.size + 1) 0 HB1.out y0 y2 y3).mono ?_
    rintro e w2 ⟨rfl, hb2⟩
    have HB2 := Lib.hid (HB1.out.trans (hb2.mono HB1.out.size))
    clear hb2
    go_wp2
    go_ret
    exact ⟨ret_int (by rw [HQ.out]), HB2.out⟩
set_option maxRecDepth 50000 in
set_option maxHeartbeats 8000000 in
/-- impl.SortsOf -/
theorem iSortsOf_any {N lo : Nat} (P : List (List UInt8)) (Q : List (Int × Int)) (O : List OpM) (va vb vc : Value) (t : TermM) (ve : Value) (w : World) (h : HasG w va vb vc P Q O) (ht : HasTs N lo w ve t.args) (hB : Bnd t) (hsz : sizes t.args ≤ 1048576) (z : Bool) (hz : z = true ↔ STerm P Q O t) :
    Calls Tryz.prog 13 #[.agg #[va, vb, vc], aggT t ve] w fun e w' => e = .returned (.int .i64 ((sortsZ P Q O t z : Nat) : Int)) ∧ Below w.heap.size w w' := by
  have HC1 := Lib.hid (fun W (hW : Below w.heap.size w W) => rules_any P Q O va vb vc W (h.below (Nat.le_refl _) hW))
  have HC2 := Lib.hid (fun mm um A no c W (hW : Below w.heap.size w W) (hM : HasM W (.map mm) (.slice A no c) (grM P Q O)) (hU : MapU W (.map um) (ordU P Q)) => sortsOf_any P Q O mm um A no c t ve W hM hU (ht.below (Nat.le_refl _) hW) hB hsz z hz)
  obtain ⟨B, cb, rfl, _⟩ := HasR.shape ht rfl
  obtain ⟨A1, c1, A2, c2, A3, c3, rfl, rfl, rfl, _⟩ := h.shape
  have hsl : sortsZ P Q O t z < 65536 := by
    unfold sortsZ
    split
    · rename_i hzt
      have hok := (sigOk_parts (hz.1 hzt).1).1
      have hlim := lim_clo hok
      exact Nat.lt_of_lt_of_le (sortsT_lt hlim O t) (Nat.le_trans (pow8 hlim.1) (by decide))
    · decide
  obtain ⟨sz, hsz'⟩ : ∃ q, q = sortsZ P Q O t z := ⟨_, rfl⟩
  rw [← hsz'] at HC2 hsl ⊢
  unfold aggT at HC2 ⊢
  obtain ⟨G, hG⟩ : ∃ G, G = grM P Q O := ⟨_, rfl⟩
  rw [← hG] at HC1 HC2
  obtain ⟨U, hU⟩ : ∃ U, U = ordU P Q := ⟨_, rfl⟩
  rw [← hU] at HC1 HC2
  obtain ⟨q, hq⟩ : ∃ q, q = t.args.length := ⟨_, rfl⟩
  obtain ⟨to, hto⟩ : ∃ q, q = t.op := ⟨_, rfl⟩
  obtain ⟨tn, htn⟩ : ∃ q, q = t.name := ⟨_, rfl⟩
  obtain ⟨ts, hts⟩ : ∃ q, q = t.sort := ⟨_, rfl⟩
  obtain ⟨m1, hm1⟩ : ∃ q, q = P.length := ⟨_, rfl⟩
  obtain ⟨m2, hm2⟩ : ∃ q, q = Q.length := ⟨_, rfl⟩
  obtain ⟨m3, hm3⟩ : ∃ q, q = O.length := ⟨_, rfl⟩
  rw [← hq, ← hto, ← htn, ← hts] at HC2 ⊢
  rw [← hm1, ← hm2, ← hm3] at HC1 ⊢
  have hcv : IntKind.i64.wrap (sz : Int) = (sz : Int) := wraps_i64 _ (by omega) (by omega)
  clear h ht hB hsz hz hq hto htn hts hm1 hm2 hm3 hG hU hsz'
  obtain ⟨W, hW⟩ : ∃ W, W = (w.alloc (.cells #[.slice A1 m1 c1, .slice A2 m2 c2, .slice A3 m3 c3] 40)).alloc (.cells #[.int .i64 to, .string (bstr tn), .int .i64 ts, .slice B q cb] 44) := ⟨_, rfl⟩
  have hb0 : Below w.heap.size w W := by
    rw [hW]
    repeat (first | exact Below.refl _ _ | refine Below.alloc ?_ (by first | (simp; done) | (simp; omega)) _)
  have hX : Box34 w.heap.size (w.heap.size + 1) (.slice A1 m1 c1) (.slice A2 m2 c2) (.slice A3 m3 c3) (.int .i64 to) (.string (bstr tn)) (.int .i64 ts) (.slice B q cb) W := by
    rw [hW]
    exact ⟨tsl.box3 (tsl.heap2a _ _ _), box4 (termt.heap_at _ _ _ (by simp))⟩
  have HB0 := Lib.hid hb0
  have HX := Lib.hid hX
  clear hb0 hX
  go_enter Tryz.func13, Tryz.ntmps13
  go_wp2_with fail
  rw [← hW]
  clear hW
  refine wp_region_noPanic ?_
  refine wp_region_held_drew (S := (Box34 w.heap.size (w.heap.size + 1) (.slice A1 m1 c1) (.slice A2 m2 c2) (.slice A3 m3 c3) (.int .i64 to) (.string (bstr tn)) (.int .i64 ts) (.slice B q cb))) (by kernel_rfl) ?_ (fun hHd0 => ?_)
  · exact HX.out
  refine wpAnyH_take (i := 0) (v := ?_) rfl (by kernel_rfl) (by kernel_rfl) (by kernel_rfl) (fun _ _ _ h => h) (Or.inl ⟨by rfl, ?_⟩) (by with_reducible assumption) ?_
  rotate_left
  · intro w hSw; (try dsimp only at hSw); go_simp <;> with_reducible rfl
  (try simp only [Act.put]); (try simp only [List.setIfInBounds_toArray]); (try simp only [List.set_cons_succ, List.set_cons_zero])
  refine wpAnyH_take (i := 2) (v := ?_) rfl (by kernel_rfl) (by kernel_rfl) (by kernel_rfl) (fun _ _ _ h => h) (Or.inl ⟨by rfl, ?_⟩) (by with_reducible assumption) ?_
  rotate_left
  · intro w hSw; (try dsimp only at hSw); go_simp <;> with_reducible rfl
  (try simp only [Act.put]); (try simp only [List.setIfInBounds_toArray]); (try simp only [List.set_cons_succ, List.set_cons_zero])
  refine wpAnyH_ready (rs := [1]) (by kernel_rfl) (by simp) ?_
  refine AllReadyH.cons (o := _) rfl (fun K hK => ?_) ?_
  · (go_simp; refine (HC1.out W.drew HB0.out.drew).mono ?_; rintro e w3 ⟨mm, A4, c4, um, rfl, hM, hU, hb3⟩; have hX3 := Box34.below (w := W.drew) HX.out hb3; have HM := Lib.hid hM; have HU := Lib.hid hU; have HB3 := Lib.hid (HB0.out.drew.trans (hb3.mono HB0.out.size)); clear hM hU hb3; (try dsimp only))
    refine hK.out _ _ ?_ (fun hHd1 => ?_)
    · (try dsimp only); first | (with_reducible assumption) | (exact hX3) | (exact hX4)
    clear hK K hHd0
    (try simp only [Act.put]); (try simp only [List.setIfInBounds_toArray]); (try simp only [List.set_cons_succ, List.set_cons_zero])
    refine wpAnyH_ready (rs := [3]) (by kernel_rfl) (by simp) ?_
    refine AllReadyH.cons (o := _) rfl (fun K hK => ?_) ?_
    · (go_simp; refine (HC2.out mm um A4 _ c4 w3 HB3.out HM.out HU.out).mono ?_; rintro e w4 ⟨rfl, hb4⟩; have hX4 := Box34.below hX3 hb4; have HB4 := Lib.hid (HB3.out.trans (hb4.mono HB3.out.size)); clear hb4; (try dsimp only))
      refine hK.out _ _ ?_ (fun hHd2 => ?_)
      · (try dsimp only); first | (with_reducible assumption) | (exact hX3) | (exact hX4)
      clear hK K hHd1
      (try simp only [Act.put]); (try simp only [List.setIfInBounds_toArray]); (try simp only [List.set_cons_succ, List.set_cons_zero])
      refine wpAnyH_ready (rs := [4]) (by kernel_rfl) (by simp) ?_
      refine AllReadyH.cons (o := _) rfl (fun K hK => ?_) ?_
      · go_simp
        refine hK.out _ _ ?_ (fun hHd3 => ?_)
        · (try dsimp only); first | (with_reducible assumption) | (exact hX3) | (exact hX4)
        clear hK K hHd2
        (try simp only [Act.put]); (try simp only [List.setIfInBounds_toArray]); (try simp only [List.set_cons_succ, List.set_cons_zero])
        refine wpAnyH_ready (rs := [5]) (by kernel_rfl) (by simp) ?_
        refine AllReadyH.cons (o := _) rfl (fun K hK => ?_) ?_
        · go_simp
          refine hK.out _ _ ?_ (fun hHd4 => ?_)
          · (try dsimp only); first | (with_reducible assumption) | (exact hX3) | (exact hX4)
          clear hK K hHd3
          (try simp only [Act.put]); (try simp only [List.setIfInBounds_toArray]); (try simp only [List.set_cons_succ, List.set_cons_zero])
          refine wpAnyH_done (by kernel_rfl) ?_ _
          refine NoPanic.normal ?_
          go_wp2
          go_ret
          exact ⟨rfl, HB4.out⟩
        exact AllReadyH.nil
      exact AllReadyH.nil
    exact AllReadyH.nil
  exact AllReadyH.nil
end Go.Proofs.YtjejdcehlckfhaaGreat.tso
