/-
  PLAIN MATHEMATICS OF SORTS: closures of pairs in rounds, what they reach, the least of a kind, least and greatest elements, valid names.
-/
import Derived.Test.YtjejdcehlckfhaaGreatSetm
namespace Go.Proofs.YtjejdcehlckfhaaGreat.sortm
open mem setm

/-- i reaches j in at most r steps of P -/
def nl (P : List (Nat × Nat)) (j : Nat) : Nat → Nat → Bool
  | 0, i => i == j
  | r + 1, i => nl P j r i || P.any fun p => p.1 == i && nl P j r p.2
def rea (P : List (Nat × Nat)) (n i j : Nat) : Bool := nl P j n i
/-- all numbers of the pairs are below n -/
def InR (n : Nat) (P : List (Nat × Nat)) : Prop := ∀ p ∈ P, p.1 < n ∧ p.2 < n

theorem nl_succ {P : List (Nat × Nat)} {j r i : Nat} : nl P j (r + 1) i = true ↔ nl P j r i = true ∨ ∃ p ∈ P, p.1 = i ∧ nl P j r p.2 = true := by
  simp [nl]
theorem nl_mono {P : List (Nat × Nat)} {j r i : Nat} (h : nl P j r i = true) (s : Nat) (hs : r ≤ s) : nl P j s i = true := by
  induction s with
  | zero => have : r = 0 := by omega
            subst this; exact h
  | succ s ih =>
    by_cases hr : r = s + 1
    · subst hr; exact h
    · exact nl_succ.2 (.inl (ih (by omega)))
theorem countP_le_of {p q : Nat → Bool} : ∀ {l : List Nat}, (∀ x, p x = true → q x = true) → l.countP p ≤ l.countP q
  | [], _ => by simp
  | x :: l, h => by
    have := countP_le_of (l := l) h
    rw [List.countP_cons, List.countP_cons]
    by_cases hx : p x = true
    · rw [if_pos hx, if_pos (h x hx)]; omega
    · rw [if_neg hx]; omega
theorem countP_lt_of {p q : Nat → Bool} (h : ∀ x, p x = true → q x = true) {a : Nat} (hp : p a = false) (hq : q a = true) : ∀ {l : List Nat}, a ∈ l → l.countP p < l.countP q
  | [], ha => by simp at ha
  | x :: l, ha => by
    rw [List.countP_cons, List.countP_cons]
    by_cases hx : x = a
    · subst hx
      have := countP_le_of (l := l) h
      rw [if_neg (by simp [hp]), if_pos hq]; omega
    · have := countP_lt_of h hp hq (l := l) (by simpa [Ne.symm hx] using ha)
      by_cases hpx : p x = true
      · rw [if_pos hpx, if_pos (h x hpx)]; omega
      · rw [if_neg hpx]; omega
theorem nl_closed {n : Nat} {P : List (Nat × Nat)} (hP : InR n P) {j : Nat} (hj : j < n) : ∀ p ∈ P, nl P j n p.2 = true → nl P j n p.1 = true := by
  have key : ∀ r, (∀ p ∈ P, nl P j r p.2 = true → nl P j r p.1 = true) ∨ r + 1 ≤ (List.range n).countP (nl P j r) := by
    intro r
    induction r with
    | zero =>
      right
      have h0 : 0 < (List.range n).countP (nl P j 0) := List.countP_pos_iff.2 ⟨j, by simpa using hj, by simp [nl]⟩
      omega
    | succ r ih =>
      rcases ih with hc | hc
      · left
        intro p hp h
        refine nl_succ.2 (.inl ?_)
        rcases nl_succ.1 h with h1 | ⟨q, hq, e, h1⟩
        · exact hc p hp h1
        · refine hc p hp ?_
          rw [← e]; exact hc q hq h1
      · by_cases hcl : ∀ p ∈ P, nl P j r p.2 = true → nl P j r p.1 = true
        · left
          intro p hp h
          refine nl_succ.2 (.inl ?_)
          rcases nl_succ.1 h with h1 | ⟨q, hq, e, h1⟩
          · exact hcl p hp h1
          · refine hcl p hp ?_
            rw [← e]; exact hcl q hq h1
        · right
          simp only [Classical.not_forall] at hcl
          obtain ⟨p, hp, h2, h1⟩ := hcl
          have := countP_lt_of (p := nl P j r) (q := nl P j (r + 1)) (fun x hx => nl_mono hx _ (by omega)) (a := p.1) (by simpa using h1) (nl_succ.2 (.inr ⟨p, hp, rfl, h2⟩)) (l := List.range n) (by simpa using (hP p hp).1)
          omega
  rcases key n with h | h
  · exact h
  · have := List.countP_le_length (p := nl P j n) (l := List.range n)
    simp at this
    omega

theorem rea_refl (P : List (Nat × Nat)) (n i : Nat) : rea P n i i = true := nl_mono (r := 0) (by simp [nl]) n (Nat.zero_le _)
theorem rea_step {n : Nat} {P : List (Nat × Nat)} (hP : InR n P) {j : Nat} (hj : j < n) {p : Nat × Nat} (hp : p ∈ P) (h : rea P n p.2 j = true) : rea P n p.1 j = true := nl_closed hP hj p hp h
theorem nl_ind {P : List (Nat × Nat)} {j : Nat} {Q : Nat → Prop} (h0 : Q j) (h1 : ∀ p ∈ P, Q p.2 → Q p.1) : ∀ r i, nl P j r i = true → Q i
  | 0, i, h => by simp [nl] at h; subst h; exact h0
  | r + 1, i, h => by
    rcases nl_succ.1 h with h' | ⟨p, hp, rfl, h'⟩
    · exact nl_ind h0 h1 r i h'
    · exact h1 p hp (nl_ind h0 h1 r _ h')
theorem rea_trans {n : Nat} {P : List (Nat × Nat)} (hP : InR n P) {i k j : Nat} (hj : j < n) (h : rea P n i k = true) (h2 : rea P n k j = true) : rea P n i j = true :=
  nl_ind (Q := fun x => rea P n x j = true) h2 (fun _ hp hq => rea_step hP hj hp hq) n i h
theorem nl_rea {n : Nat} {P : List (Nat × Nat)} (hP : InR n P) {i j : Nat} (hj : j < n) (r : Nat) (h : nl P j r i = true) : rea P n i j = true :=
  nl_ind (Q := fun x => rea P n x j = true) (rea_refl _ _ _) (fun _ hp hq => rea_step hP hj hp hq) r i h

/-! ### the closure, in rounds -/
def stepU (U : List Nat) (p : Nat × Nat) : List Nat := U.set p.1 (U.getD p.1 0 ||| U.getD p.2 0)
def roundU (P : List (Nat × Nat)) (U : List Nat) : List Nat := P.foldl stepU U
def iterU (P : List (Nat × Nat)) (U : List Nat) : Nat → List Nat
  | 0 => U
  | r + 1 => roundU P (iterU P U r)
def ident (n : Nat) : List Nat := (List.range n).map fun i => 2 ^ i
def clo (n : Nat) (P : List (Nat × Nat)) : List Nat := iterU P (ident n) n

theorem getD_set {U : List Nat} {a : Nat} (v i : Nat) (ha : a < U.length) : (U.set a v).getD i 0 = if i = a then v else U.getD i 0 := by
  by_cases h : i = a
  · subst h; simp [List.getD, ha]
  · rw [if_neg h]; simp [List.getD, List.getElem?_set_ne (Ne.symm h)]
theorem stepU_len (U : List Nat) (p : Nat × Nat) : (stepU U p).length = U.length := by simp [stepU]
theorem foldU_len (L : List (Nat × Nat)) : ∀ U : List Nat, (L.foldl stepU U).length = U.length := by
  induction L with
  | nil => intro U; rfl
  | cons p L ih => intro U; rw [List.foldl_cons, ih, stepU_len]
theorem iterU_len (P : List (Nat × Nat)) (U : List Nat) (r : Nat) : (iterU P U r).length = U.length := by
  induction r with
  | zero => rfl
  | succ r ih => rw [iterU, roundU, foldU_len, ih]
theorem ident_len (n : Nat) : (ident n).length = n := by simp [ident]
theorem clo_len (n : Nat) (P : List (Nat × Nat)) : (clo n P).length = n := by rw [clo, iterU_len, ident_len]
theorem ident_get (n i : Nat) (h : i < n) : (ident n).getD i 0 = 2 ^ i := by simp [ident, List.getD, h]
theorem stepU_get {U : List Nat} {p : Nat × Nat} (hp : p.1 < U.length) (i : Nat) : (stepU U p).getD i 0 = if i = p.1 then U.getD p.1 0 ||| U.getD p.2 0 else U.getD i 0 := getD_set _ _ hp

/-- what stands in U is reached -/
def Snd (n : Nat) (P : List (Nat × Nat)) (U : List Nat) : Prop := ∀ i j, (U.getD i 0).testBit j = true → j < n ∧ rea P n i j = true
theorem snd_step {n : Nat} {P : List (Nat × Nat)} (hP : InR n P) {U : List Nat} (hU : U.length = n) (h : Snd n P U) {p : Nat × Nat} (hp : p ∈ P) : Snd n P (stepU U p) := by
  intro i j hb
  rw [stepU_get (by rw [hU]; exact (hP p hp).1)] at hb
  by_cases hi : i = p.1
  · rw [if_pos hi, Nat.testBit_or, Bool.or_eq_true] at hb
    subst hi
    rcases hb with hb | hb
    · exact h _ _ hb
    · obtain ⟨hj, hr⟩ := h _ _ hb
      exact ⟨hj, rea_step hP hj hp hr⟩
  · rw [if_neg hi] at hb; exact h _ _ hb
theorem snd_fold {n : Nat} {P : List (Nat × Nat)} (hP : InR n P) : ∀ (L : List (Nat × Nat)), (∀ p ∈ L, p ∈ P) → ∀ U : List Nat, U.length = n → Snd n P U → Snd n P (L.foldl stepU U)
  | [], _, U, _, h => h
  | p :: L, hL, U, hU, h => snd_fold hP L (fun q hq => hL q (by simp [hq])) _ (by rw [stepU_len, hU]) (snd_step hP hU h (hL p (by simp)))
theorem snd_iter {n : Nat} {P : List (Nat × Nat)} (hP : InR n P) (r : Nat) : Snd n P (iterU P (ident n) r) := by
  induction r with
  | zero =>
    intro i j hb
    by_cases hi : i < n
    · rw [iterU, ident_get n i hi, Nat.testBit_two_pow] at hb
      have : i = j := by simpa using hb
      subst this
      exact ⟨hi, rea_refl _ _ _⟩
    · rw [iterU, List.getD, List.getElem?_eq_none (by rw [ident_len]; omega)] at hb
      simp at hb
  | succ r ih => exact snd_fold hP P (fun _ h => h) _ (by rw [iterU_len, ident_len]) ih

theorem fold_mono {n : Nat} : ∀ (L : List (Nat × Nat)), InR n L → ∀ (U : List Nat), U.length = n → ∀ i j, (U.getD i 0).testBit j = true → ((L.foldl stepU U).getD i 0).testBit j = true
  | [], _, _, _, _, _, h => h
  | p :: L, hL, U, hU, i, j, h => by
    refine fold_mono L (fun q hq => hL q (by simp [hq])) _ (by rw [stepU_len, hU]) i j ?_
    rw [stepU_get (by rw [hU]; exact (hL p (by simp)).1)]
    by_cases hi : i = p.1
    · subst hi; rw [if_pos rfl, Nat.testBit_or, h]; rfl
    · rw [if_neg hi]; exact h
theorem fold_hit {n : Nat} : ∀ (L : List (Nat × Nat)), InR n L → ∀ (U : List Nat), U.length = n → ∀ p ∈ L, ∀ j, (U.getD p.2 0).testBit j = true → ((L.foldl stepU U).getD p.1 0).testBit j = true
  | [], _, _, _, p, hp, _, _ => by simp at hp
  | q :: L, hL, U, hU, p, hp, j, h => by
    have hq := hL q (by simp)
    have hL' : InR n L := fun x hx => hL x (by simp [hx])
    rcases List.mem_cons.1 hp with rfl | hp'
    · refine fold_mono L hL' _ (by rw [stepU_len, hU]) _ _ ?_
      rw [stepU_get (by rw [hU]; exact hq.1), if_pos rfl, Nat.testBit_or, h, Bool.or_true]
    · refine fold_hit L hL' _ (by rw [stepU_len, hU]) p hp' j ?_
      have := fold_mono [q] (fun x hx => by simp at hx; subst hx; exact hq) U hU p.2 j h
      simpa using this
theorem cmp_iter {n : Nat} {P : List (Nat × Nat)} (hP : InR n P) (j : Nat) : ∀ (r i : Nat), i < n → nl P j r i = true → ((iterU P (ident n) r).getD i 0).testBit j = true
  | 0, i, hi, h => by
    simp [nl] at h
    subst h
    rw [iterU, ident_get n i hi, Nat.testBit_two_pow]; simp
  | r + 1, i, hi, h => by
    have hl : (iterU P (ident n) r).length = n := by rw [iterU_len, ident_len]
    rcases nl_succ.1 h with h' | ⟨p, hp, rfl, h'⟩
    · exact fold_mono P hP _ hl _ _ (cmp_iter hP j r i hi h')
    · exact fold_hit P hP _ hl p hp j (cmp_iter hP j r p.2 (hP p hp).2 h')
theorem clo_bit {n : Nat} {P : List (Nat × Nat)} (hP : InR n P) {i : Nat} (hi : i < n) (j : Nat) : ((clo n P).getD i 0).testBit j = true ↔ j < n ∧ rea P n i j = true :=
  ⟨snd_iter hP n i j, fun h => cmp_iter hP j n i hi h.2⟩
theorem clo_lt {n : Nat} {P : List (Nat × Nat)} (hP : InR n P) (i : Nat) : (clo n P).getD i 0 < 2 ^ n :=
  Nat.lt_pow_two_of_testBit _ fun j hj => by
    cases h : ((clo n P).getD i 0).testBit j with
    | false => rfl
    | true => have := (snd_iter hP n i j h).1; omega
theorem iter_lt {n : Nat} {P : List (Nat × Nat)} (hP : InR n P) (r i : Nat) : (iterU P (ident n) r).getD i 0 < 2 ^ n :=
  Nat.lt_pow_two_of_testBit _ fun j hj => by
    cases h : ((iterU P (ident n) r).getD i 0).testBit j with
    | false => rfl
    | true => have := (snd_iter hP r i j h).1; omega
/-- within a round -/
def midU (n : Nat) (P : List (Nat × Nat)) (r k : Nat) : List Nat := (P.take k).foldl stepU (iterU P (ident n) r)
theorem midU_len (n : Nat) (P : List (Nat × Nat)) (r k : Nat) : (midU n P r k).length = n := by rw [midU, foldU_len, iterU_len, ident_len]
theorem midU_zero (n : Nat) (P : List (Nat × Nat)) (r : Nat) : midU n P r 0 = iterU P (ident n) r := by simp [midU]
theorem midU_succ (n : Nat) (P : List (Nat × Nat)) (r k : Nat) (h : k < P.length) : midU n P r (k + 1) = stepU (midU n P r k) (P.getD k (0, 0)) := by
  rw [midU, List.take_succ_eq_append_getElem h, List.foldl_append]
  simp [midU, List.getD, List.getElem?_eq_getElem h]
theorem midU_last (n : Nat) (P : List (Nat × Nat)) (r : Nat) : midU n P r P.length = iterU P (ident n) (r + 1) := by simp [midU, iterU, roundU]
theorem midU_lt {n : Nat} {P : List (Nat × Nat)} (hP : InR n P) (r k i : Nat) : (midU n P r k).getD i 0 < 2 ^ n :=
  Nat.lt_pow_two_of_testBit _ fun j hj => by
    cases h : ((midU n P r k).getD i 0).testBit j with
    | false => rfl
    | true =>
      have := (snd_fold hP (P.take k) (fun p hp => List.mem_of_mem_take hp) _ (by rw [iterU_len, ident_len]) (snd_iter hP r) i j h).1
      omega

/-! ### kinds -/
def both (P : List (Nat × Nat)) : List (Nat × Nat) := P.flatMap fun p => [p, (p.2, p.1)]
theorem mem_both {P : List (Nat × Nat)} {q : Nat × Nat} : q ∈ both P ↔ q ∈ P ∨ (q.2, q.1) ∈ P := by
  constructor
  · intro h
    obtain ⟨p, hp, hq⟩ := List.mem_flatMap.1 h
    simp only [List.mem_cons, List.not_mem_nil, or_false] at hq
    rcases hq with rfl | rfl
    · exact .inl hp
    · exact .inr hp
  · rintro (h | h)
    · exact List.mem_flatMap.2 ⟨_, h, by simp⟩
    · exact List.mem_flatMap.2 ⟨_, h, by simp⟩
theorem both_in {n : Nat} {P : List (Nat × Nat)} (hP : InR n P) : InR n (both P) := by
  intro q hq
  rcases mem_both.1 hq with h | h
  · exact hP q h
  · exact ⟨(hP _ h).2, (hP _ h).1⟩
theorem both_swap {P : List (Nat × Nat)} {q : Nat × Nat} (h : q ∈ both P) : (q.2, q.1) ∈ both P := mem_both.2 (by
  rcases mem_both.1 h with h | h
  · exact .inr h
  · exact .inl h)
theorem rea_symm {n : Nat} {P : List (Nat × Nat)} (hP : InR n P) {i j : Nat} (hi : i < n) (_hj : j < n) (h : rea (both P) n i j = true) : rea (both P) n j i = true := by
  have hB := both_in hP
  have : i < n → rea (both P) n j i = true := by
    refine nl_ind (P := both P) (j := j) (Q := fun x => x < n → rea (both P) n j x = true) (fun _ => rea_refl _ _ _) (fun p hp hq hp1 => ?_) n i h
    refine rea_trans hB hp1 (hq (hB p hp).2) ?_
    exact rea_step hB hp1 (both_swap hp) (rea_refl _ _ _)
  exact this hi
theorem rea_both {n : Nat} {P : List (Nat × Nat)} (hP : InR n P) {i j : Nat} (hj : j < n) (h : rea P n i j = true) : rea (both P) n i j = true :=
  nl_ind (P := P) (j := j) (Q := fun x => rea (both P) n x j = true) (rea_refl _ _ _) (fun _ hp hq => rea_step (both_in hP) hj (mem_both.2 (.inl hp)) hq) n i h

def stepK (V : List Nat) (p : Nat × Nat) : List Nat := (V.set p.1 (min (V.getD p.1 0) (V.getD p.2 0))).set p.2 (min (V.getD p.1 0) (V.getD p.2 0))
def iterK (P : List (Nat × Nat)) (V : List Nat) : Nat → List Nat
  | 0 => V
  | r + 1 => P.foldl stepK (iterK P V r)
def kin (n : Nat) (P : List (Nat × Nat)) : List Nat := iterK P (List.range n) n
theorem stepK_len (V : List Nat) (p : Nat × Nat) : (stepK V p).length = V.length := by simp [stepK]
theorem foldK_len (L : List (Nat × Nat)) : ∀ V : List Nat, (L.foldl stepK V).length = V.length := by
  induction L with
  | nil => intro U; rfl
  | cons p L ih => intro U; rw [List.foldl_cons, ih, stepK_len]
theorem iterK_len (P : List (Nat × Nat)) (V : List Nat) (r : Nat) : (iterK P V r).length = V.length := by
  induction r with
  | zero => rfl
  | succ r ih => rw [iterK, foldK_len, ih]
theorem stepK_get {V : List Nat} {p : Nat × Nat} (h1 : p.1 < V.length) (h2 : p.2 < V.length) (i : Nat) : (stepK V p).getD i 0 = if i = p.1 ∨ i = p.2 then min (V.getD p.1 0) (V.getD p.2 0) else V.getD i 0 := by
  rw [stepK, getD_set _ _ (by simpa using h2)]
  by_cases hi : i = p.2
  · rw [if_pos hi, if_pos (.inr hi)]
  · rw [if_neg hi, getD_set _ _ h1]
    by_cases hj : i = p.1
    · rw [if_pos hj, if_pos (.inl hj)]
    · rw [if_neg hj, if_neg (by rintro (h | h) <;> contradiction)]
def SndK (n : Nat) (P : List (Nat × Nat)) (V : List Nat) : Prop := ∀ i, i < n → V.getD i 0 < n ∧ rea (both P) n i (V.getD i 0) = true
theorem sndK_step {n : Nat} {P : List (Nat × Nat)} (hP : InR n P) {V : List Nat} (hV : V.length = n) (h : SndK n P V) {p : Nat × Nat} (hp : p ∈ P) : SndK n P (stepK V p) := by
  intro i hi
  obtain ⟨p1, p2⟩ := hP p hp
  rw [stepK_get (by omega) (by omega)]
  obtain ⟨a1, a2⟩ := h p.1 p1
  obtain ⟨b1, b2⟩ := h p.2 p2
  have hpb : p ∈ both P := mem_both.2 (.inl hp)
  by_cases hc : i = p.1 ∨ i = p.2
  · rw [if_pos hc]
    rcases Nat.le_total (V.getD p.1 0) (V.getD p.2 0) with hle | hle
    · rw [Nat.min_eq_left hle]
      refine ⟨a1, ?_⟩
      rcases hc with rfl | rfl
      · exact a2
      · exact rea_step (both_in hP) a1 (both_swap hpb) a2
    · rw [Nat.min_eq_right hle]
      refine ⟨b1, ?_⟩
      rcases hc with rfl | rfl
      · exact rea_step (both_in hP) b1 hpb b2
      · exact b2
  · rw [if_neg hc]; exact h i hi
theorem sndK_fold {n : Nat} {P : List (Nat × Nat)} (hP : InR n P) : ∀ (L : List (Nat × Nat)), (∀ p ∈ L, p ∈ P) → ∀ V : List Nat, V.length = n → SndK n P V → SndK n P (L.foldl stepK V)
  | [], _, V, _, h => h
  | p :: L, hL, V, hV, h => sndK_fold hP L (fun q hq => hL q (by simp [hq])) _ (by rw [stepK_len, hV]) (sndK_step hP hV h (hL p (by simp)))
theorem sndK_iter {n : Nat} {P : List (Nat × Nat)} (hP : InR n P) (r : Nat) : SndK n P (iterK P (List.range n) r) := by
  induction r with
  | zero =>
    intro i hi
    have : (List.range n).getD i 0 = i := by simp [List.getD, hi]
    rw [iterK, this]
    exact ⟨hi, rea_refl _ _ _⟩
  | succ r ih => exact sndK_fold hP P (fun _ h => h) _ (by rw [iterK_len]; simp) ih
theorem foldK_mono {n : Nat} : ∀ (L : List (Nat × Nat)), InR n L → ∀ (V : List Nat), V.length = n → ∀ i, (L.foldl stepK V).getD i 0 ≤ V.getD i 0
  | [], _, _, _, _ => Nat.le_refl _
  | p :: L, hL, V, hV, i => by
    refine Nat.le_trans (foldK_mono L (fun q hq => hL q (by simp [hq])) _ (by rw [stepK_len, hV]) i) ?_
    obtain ⟨p1, p2⟩ := hL p (by simp)
    rw [stepK_get (by omega) (by omega)]
    by_cases hc : i = p.1 ∨ i = p.2
    · rw [if_pos hc]
      rcases hc with rfl | rfl <;> omega
    · rw [if_neg hc]; exact Nat.le_refl _
theorem foldK_hit {n : Nat} : ∀ (L : List (Nat × Nat)), InR n L → ∀ (V : List Nat), V.length = n → ∀ p ∈ L, (L.foldl stepK V).getD p.1 0 ≤ V.getD p.2 0 ∧ (L.foldl stepK V).getD p.2 0 ≤ V.getD p.1 0
  | [], _, _, _, p, hp => by simp at hp
  | q :: L, hL, V, hV, p, hp => by
    have hL' : InR n L := fun x hx => hL x (by simp [hx])
    obtain ⟨q1, q2⟩ := hL q (by simp)
    have hlen : (stepK V q).length = n := by rw [stepK_len, hV]
    rcases List.mem_cons.1 hp with rfl | hp'
    · have g1 := foldK_mono L hL' _ hlen p.1
      have g2 := foldK_mono L hL' _ hlen p.2
      rw [stepK_get (by omega) (by omega), if_pos (.inl rfl)] at g1
      rw [stepK_get (by omega) (by omega), if_pos (.inr rfl)] at g2
      rw [List.foldl_cons]
      omega
    · have g := foldK_hit L hL' _ hlen p hp'
      have g1 := foldK_mono [q] (fun x hx => by simp at hx; subst hx; exact ⟨q1, q2⟩) V hV p.1
      have g2 := foldK_mono [q] (fun x hx => by simp at hx; subst hx; exact ⟨q1, q2⟩) V hV p.2
      simp only [List.foldl_cons, List.foldl_nil] at g1 g2
      rw [List.foldl_cons]
      omega
theorem cmpK_iter {n : Nat} {P : List (Nat × Nat)} (hP : InR n P) (j : Nat) : ∀ (r i : Nat), i < n → nl (both P) j r i = true → (iterK P (List.range n) r).getD i 0 ≤ j
  | 0, i, hi, h => by
    simp [nl] at h
    subst h
    simp [iterK, List.getD, hi]
  | r + 1, i, hi, h => by
    have hl : (iterK P (List.range n) r).length = n := by rw [iterK_len]; simp
    rcases nl_succ.1 h with h' | ⟨p, hp, rfl, h'⟩
    · exact Nat.le_trans (foldK_mono P hP _ hl _) (cmpK_iter hP j r i hi h')
    · have hp2 := (both_in hP p hp).2
      have ih := cmpK_iter hP j r p.2 hp2 h'
      rcases mem_both.1 hp with hm | hm
      · exact Nat.le_trans (foldK_hit P hP _ hl p hm).1 ih
      · exact Nat.le_trans (foldK_hit P hP _ hl _ hm).2 ih
theorem kin_len (n : Nat) (P : List (Nat × Nat)) : (kin n P).length = n := by rw [kin, iterK_len]; simp
theorem kin_spec {n : Nat} {P : List (Nat × Nat)} (hP : InR n P) {i : Nat} (hi : i < n) :
    (kin n P).getD i 0 < n ∧ rea (both P) n i ((kin n P).getD i 0) = true ∧ ∀ j, rea (both P) n i j = true → (kin n P).getD i 0 ≤ j :=
  ⟨(sndK_iter hP n i hi).1, (sndK_iter hP n i hi).2, fun j h => cmpK_iter hP j n i hi h⟩
def midK (n : Nat) (P : List (Nat × Nat)) (r k : Nat) : List Nat := (P.take k).foldl stepK (iterK P (List.range n) r)
theorem midK_len (n : Nat) (P : List (Nat × Nat)) (r k : Nat) : (midK n P r k).length = n := by rw [midK, foldK_len, iterK_len]; simp
theorem midK_zero (n : Nat) (P : List (Nat × Nat)) (r : Nat) : midK n P r 0 = iterK P (List.range n) r := by simp [midK]
theorem midK_succ (n : Nat) (P : List (Nat × Nat)) (r k : Nat) (h : k < P.length) : midK n P r (k + 1) = stepK (midK n P r k) (P.getD k (0, 0)) := by
  rw [midK, List.take_succ_eq_append_getElem h, List.foldl_append]
  simp [midK, List.getD, List.getElem?_eq_getElem h]
theorem midK_last (n : Nat) (P : List (Nat × Nat)) (r : Nat) : midK n P r P.length = iterK P (List.range n) (r + 1) := by simp [midK, iterK]
theorem midK_lt {n : Nat} {P : List (Nat × Nat)} (hP : InR n P) (r k i : Nat) (hi : i < n) : (midK n P r k).getD i 0 < n :=
  (sndK_fold hP (P.take k) (fun p hp => List.mem_of_mem_take hp) _ (by rw [iterK_len]; simp) (sndK_iter hP r) i hi).1
/-- the first element of the closure in both directions is the kind's least -/
theorem kin_head {n : Nat} {P : List (Nat × Nat)} (hP : InR n P) (hn : n ≤ 16) {i : Nat} (hi : i < n) :
    0 < (els ((clo n (both P)).getD i 0)).length ∧ (els ((clo n (both P)).getD i 0)).getD 0 0 = (kin n P).getD i 0 := by
  obtain ⟨h1, h2, h3⟩ := kin_spec hP hi
  have hB := both_in hP
  have hf : (List.range 16).find? ((clo n (both P)).getD i 0).testBit = some ((kin n P).getD i 0) := by
    rw [List.find?_range_eq_some]
    refine ⟨(clo_bit hB hi _).2 ⟨h1, h2⟩, List.mem_range.2 (by omega), fun j hj => ?_⟩
    cases hb : ((clo n (both P)).getD i 0).testBit j with
    | false => rfl
    | true => have := h3 j ((clo_bit hB hi _).1 hb).2; omega
  have hh : (els ((clo n (both P)).getD i 0)).head? = some ((kin n P).getD i 0) := by rw [els, elsTo, List.head?_filter]; exact hf
  cases he : els ((clo n (both P)).getD i 0) with
  | nil => rw [he] at hh; simp at hh
  | cons a l => rw [he] at hh; simp at hh ⊢; exact hh

/-! ### sets given by a test -/
def gather (f : Nat → Bool) : Nat → Nat
  | 0 => 0
  | n + 1 => if f n then gather f n ||| 2 ^ n else gather f n
theorem gather_bit (f : Nat → Bool) (n i : Nat) : (gather f n).testBit i = (decide (i < n) && f i) := by
  induction n with
  | zero => simp [gather]
  | succ n ih =>
    rw [gather]
    by_cases hi : i = n
    · subst hi
      by_cases hf : f i = true
      · rw [if_pos hf, Nat.testBit_or, Nat.testBit_two_pow]; simp [hf]
      · rw [if_neg hf, ih]; simp at hf; simp [hf]
    · have e : decide (i < n + 1) = decide (i < n) := by simp; omega
      rw [e, ← ih]
      by_cases hf : f n = true
      · rw [if_pos hf, Nat.testBit_or, Nat.testBit_two_pow]
        have : decide (n = i) = false := by simp; omega
        simp [this]
      · rw [if_neg hf]
theorem gather_lt (f : Nat → Bool) (n : Nat) : gather f n < 2 ^ n :=
  Nat.lt_pow_two_of_testBit _ fun j hj => by rw [gather_bit]; simp; omega
theorem gather_hit {f : Nat → Bool} {n : Nat} (h : f n = true) : gather f (n + 1) = gather f n ||| 2 ^ n := by rw [gather, if_pos h]
theorem gather_miss {f : Nat → Bool} {n : Nat} (h : f n = false) : gather f (n + 1) = gather f n := by rw [gather, if_neg (by simp [h])]

/-- the sorts below k -/
def belF (U : List Nat) (k i : Nat) : Bool := (U.getD i 0).testBit k
def belowU (U : List Nat) (k : Nat) : Nat := gather (belF U k) U.length
def leastF (U : List Nat) (S i : Nat) (k : Nat) : Bool := k == i || !S.testBit k || !(U.getD k 0).testBit i
def leastG (U : List Nat) (S i : Nat) : Bool := S.testBit i && (List.range U.length).all (leastF U S i)
def leastU (U : List Nat) (S : Nat) : Nat := gather (leastG U S) U.length
def mostF (U : List Nat) (S i : Nat) (k : Nat) : Bool := k == i || !S.testBit k || !(U.getD i 0).testBit k
def mostG (U : List Nat) (S i : Nat) : Bool := S.testBit i && (List.range U.length).all (mostF U S i)
def mostU (U : List Nat) (S : Nat) : Nat := gather (mostG U S) U.length
theorem belowU_lt (U : List Nat) (k : Nat) : belowU U k < 2 ^ U.length := gather_lt _ _
theorem leastU_lt (U : List Nat) (k : Nat) : leastU U k < 2 ^ U.length := gather_lt _ _
theorem mostU_lt (U : List Nat) (k : Nat) : mostU U k < 2 ^ U.length := gather_lt _ _

/-- a without the elements of b -/
def minus (a b : Nat) : Nat := a ^^^ (a &&& b)
theorem minus_bit (a b i : Nat) : (minus a b).testBit i = (a.testBit i && !b.testBit i) := by
  rw [minus, Nat.testBit_xor, Nat.testBit_and]
  cases a.testBit i <;> cases b.testBit i <;> rfl
theorem minus_lt {a : Nat} (b : Nat) {n : Nat} (h : a < 2 ^ n) : minus a b < 2 ^ n :=
  Nat.lt_pow_two_of_testBit _ fun j hj => by
    rw [minus_bit, Nat.testBit_lt_two_pow (Nat.lt_of_lt_of_le h (Nat.pow_le_pow_right (by decide) hj))]; rfl
def leastL (U : List Nat) (S : Nat) (L : List Nat) : Nat := L.foldl (fun s k => minus s (minus (U.getD k 0) (2 ^ k))) S
theorem leastL_bit (U : List Nat) (i : Nat) : ∀ (L : List Nat) (S : Nat), (leastL U S L).testBit i = (S.testBit i && L.all fun k => k == i || !(U.getD k 0).testBit i)
  | [], S => by simp [leastL]
  | k :: L, S => by
    have ih := leastL_bit U i L (minus S (minus (U.getD k 0) (2 ^ k)))
    rw [show leastL U S (k :: L) = leastL U (minus S (minus (U.getD k 0) (2 ^ k))) L from rfl, ih, minus_bit, minus_bit, Nat.testBit_two_pow, List.all_cons]
    by_cases hk : k = i
    · subst hk; simp
    · have hkb : (k == i) = false := by simp [hk]
      simp [hk, hkb, Bool.and_assoc]
theorem leastL_eq {U : List Nat} {S : Nat} (hn : U.length ≤ 16) (hS : S < 2 ^ U.length) : leastL U S (els S) = leastU U S := by
  apply Nat.eq_of_testBit_eq
  intro i
  rw [leastL_bit, leastU, gather_bit, leastG, Bool.eq_iff_iff]
  simp only [Bool.and_eq_true, decide_eq_true_eq, List.all_eq_true, leastF, Bool.or_eq_true, beq_iff_eq, Bool.not_eq_true']
  have hin : ∀ k, S.testBit k = true → k < U.length := fun k hk => by
    have := Nat.ge_two_pow_of_testBit hk
    by_cases hlt : k < U.length
    · exact hlt
    · have := Nat.pow_le_pow_right (n := 2) (by decide) (Nat.le_of_not_lt hlt); omega
  constructor
  · rintro ⟨h1, h2⟩
    refine ⟨hin i h1, h1, fun k hk => ?_⟩
    cases hb : S.testBit k with
    | false => exact .inl (.inr rfl)
    | true =>
      rcases h2 k (mem_els.2 ⟨by have := hin k hb; omega, hb⟩) with h | h
      · exact .inl (.inl h)
      · exact .inr h
  · rintro ⟨_, h1, h2⟩
    refine ⟨h1, fun k hk => ?_⟩
    have hk2 := (mem_els.1 hk).2
    rcases h2 k (by simpa using hin k hk2) with (h | h) | h
    · exact .inl h
    · rw [hk2] at h; cases h
    · exact .inr h
def mostL (U : List Nat) (S : Nat) (L : List Nat) : Nat := L.foldl (fun s k => if U.getD k 0 &&& S = 2 ^ k then s ||| 2 ^ k else s) 0
theorem mostL_snoc (U : List Nat) (S : Nat) (L : List Nat) (k : Nat) : mostL U S (L ++ [k]) = if U.getD k 0 &&& S = 2 ^ k then mostL U S L ||| 2 ^ k else mostL U S L := by
  rw [mostL, List.foldl_append]; rfl
theorem leastL_snoc (U : List Nat) (S : Nat) (L : List Nat) (k : Nat) : leastL U S (L ++ [k]) = minus (leastL U S L) (minus (U.getD k 0) (2 ^ k)) := by
  rw [leastL, List.foldl_append]; rfl
theorem mostL_bit (U : List Nat) (S i : Nat) : ∀ (L : List Nat) (s : Nat), ((L.foldl (fun s k => if U.getD k 0 &&& S = 2 ^ k then s ||| 2 ^ k else s) s).testBit i = true) ↔ (s.testBit i = true ∨ (i ∈ L ∧ U.getD i 0 &&& S = 2 ^ i))
  | [], s => by simp
  | k :: L, s => by
    rw [List.foldl_cons, mostL_bit U S i L]
    by_cases hk : U.getD k 0 &&& S = 2 ^ k
    · rw [if_pos hk, Nat.testBit_or, Nat.testBit_two_pow]
      simp only [Bool.or_eq_true, decide_eq_true_eq, List.mem_cons]
      constructor
      · rintro ((h | h) | h)
        · exact .inl h
        · subst h; exact .inr ⟨.inl rfl, hk⟩
        · exact .inr ⟨.inr h.1, h.2⟩
      · rintro (h | ⟨h | h, h2⟩)
        · exact .inl (.inl h)
        · exact .inl (.inr h.symm)
        · exact .inr ⟨h, h2⟩
    · rw [if_neg hk]
      simp only [List.mem_cons]
      constructor
      · rintro (h | h)
        · exact .inl h
        · exact .inr ⟨.inr h.1, h.2⟩
      · rintro (h | ⟨h | h, h2⟩)
        · exact .inl h
        · subst h; exact absurd h2 hk
        · exact .inr ⟨h, h2⟩
theorem mostL_eq {U : List Nat} {S : Nat} (hn : U.length ≤ 16) (hS : S < 2 ^ U.length) (hr : ∀ i, i < U.length → (U.getD i 0).testBit i = true) : mostL U S (els S) = mostU U S := by
  apply Nat.eq_of_testBit_eq
  intro i
  rw [mostU, gather_bit, mostG, Bool.eq_iff_iff, mostL, mostL_bit]
  simp only [Bool.and_eq_true, decide_eq_true_eq, List.all_eq_true, mostF, Bool.or_eq_true, beq_iff_eq, Bool.not_eq_true', Nat.zero_testBit, Bool.false_eq_true, false_or, List.mem_range]
  have hin : ∀ k, S.testBit k = true → k < U.length := fun k hk => by
    have := Nat.ge_two_pow_of_testBit hk
    by_cases hlt : k < U.length
    · exact hlt
    · have := Nat.pow_le_pow_right (n := 2) (by decide) (Nat.le_of_not_lt hlt); omega
  constructor
  · rintro ⟨h1, h2⟩
    have hb := (mem_els.1 h1).2
    refine ⟨hin i hb, hb, fun k hk => ?_⟩
    have e := congrArg (fun x => x.testBit k) h2
    simp only [Nat.testBit_and, Nat.testBit_two_pow] at e
    by_cases hki : k = i
    · exact .inl (.inl hki)
    · have : decide (i = k) = false := by simp; omega
      rw [this] at e
      cases hS2 : S.testBit k with
      | false => exact .inl (.inr rfl)
      | true => rw [hS2, Bool.and_true] at e; exact .inr e
  · rintro ⟨hi, hb, h2⟩
    refine ⟨mem_els.2 ⟨by omega, hb⟩, ?_⟩
    apply Nat.eq_of_testBit_eq
    intro k
    rw [Nat.testBit_and, Nat.testBit_two_pow]
    by_cases hki : i = k
    · subst hki; rw [hr i hi, hb]; simp
    · have e : decide (i = k) = false := by simp [hki]
      rw [e]
      cases hS2 : S.testBit k with
      | false => simp
      | true =>
        rcases h2 k (hin k hS2) with (h | h) | h
        · omega
        · rw [hS2] at h; cases h
        · rw [h]; rfl
end Go.Proofs.YtjejdcehlckfhaaGreat.sortm
