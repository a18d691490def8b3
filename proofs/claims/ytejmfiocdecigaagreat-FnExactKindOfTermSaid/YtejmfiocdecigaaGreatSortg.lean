/-
  THE MODEL's FUNCTIONS OF SORTS: AboveSort, BelowSort, KindOfSort, LeastSorts, GreatestSorts, CommonSorts.
-/
import Derived.Test.YtejmfiocdecigaaGreatSorts
namespace Go.Proofs.YtejmfiocdecigaaGreat.sortg
open Go.ChangeShapes Go.WideShapes Go.ChangeAt Go.RowKit
open mem split strl subs sortn setm sets sortm sortp sorti sortf sortu sorts

/-- what a valid argument gives -/
theorem ok_facts {P : List (List UInt8)} {Q : List (Int × Int)} (h : okS P Q = true) :
    1 ≤ P.length ∧ P.length ≤ 8 ∧ PIn P.length Q ∧ Q.length ≤ 16 ∧ ordU P Q = clo P.length (prs Q) ∧ (ordU P Q).length = P.length := by
  obtain ⟨h1, h2, h3, h4, _⟩ := okS_parts h
  exact ⟨h1, h2, h3, h4, ordU_yes h, by rw [ordU_len, if_pos h]⟩
theorem ok_ne {P : List (List UInt8)} {Q : List (Int × Int)} (h : okS P Q = true) : ∀ p ∈ Q, p.1 ≠ p.2 := by
  simp only [okS, subsOk, subOk, Bool.and_eq_true, List.all_eq_true, decide_eq_true_eq] at h
  intro p hp
  exact (h.1.2.2 p hp).2
theorem gather_small {f : Nat → Bool} {j : Nat} (h : j ≤ 8) : gather f j < 65536 := Nat.lt_of_lt_of_le (gather_lt f j) (Nat.le_trans (pow8 h) (by decide))
theorem all_range_succ (f : Nat → Bool) (k : Nat) : (List.range (k + 1)).all f = ((List.range k).all f && f k) := by
  rw [List.range_succ, List.all_append]; simp
theorem all_range_bad (f : Nat → Bool) (n k : Nat) (hk : k < n) (h : f k = false) : (List.range n).all f = false := by
  simp only [List.all_eq_false]
  exact ⟨k, by simpa using hk, by simp [h]⟩
theorem leastU_zero (U : List Nat) : leastU U 0 = 0 := by
  apply Nat.eq_of_testBit_eq
  intro i
  rw [leastU, gather_bit, leastG]; simp
theorem mostU_zero (U : List Nat) : mostU U 0 = 0 := by
  apply Nat.eq_of_testBit_eq
  intro i
  rw [mostU, gather_bit, mostG]; simp
theorem inU_yes {n : Nat} {x : Int} (h : subI x ((2 ^ n - 1 : Nat) : Int) = true) : inU n x = x.toNat ∧ 0 ≤ x := by
  have h2 := h
  simp only [subI, ok, Bool.and_eq_true, decide_eq_true_eq] at h2
  exact ⟨by rw [inU, if_pos h], h2.1.1.1⟩
theorem inU_no {n : Nat} {x : Int} (h : subI x ((2 ^ n - 1 : Nat) : Int) = false) : inU n x = 0 := by rw [inU, if_neg (by simp [h])]
theorem inU_nat {n s : Nat} (hn : n ≤ 8) (h : s < 2 ^ n) : inU n (s : Int) = s := by
  have hp := pow8 hn
  have hs : sub s (2 ^ n - 1) = true := by
    rw [sub_iff]
    intro k hk
    rw [Nat.testBit_two_pow_sub_one]
    have := Nat.ge_two_pow_of_testBit hk
    simp only [decide_eq_true_eq]
    by_cases hkn : k < n
    · exact hkn
    · have := Nat.pow_le_pow_right (n := 2) (by decide) (Nat.le_of_not_lt hkn); omega
  have h1 : ok (s : Int) = true := by simp [ok]; omega
  have h2 : ok ((2 ^ n - 1 : Nat) : Int) = true := by simp [ok]; omega
  have : subI (s : Int) ((2 ^ n - 1 : Nat) : Int) = true := by simp only [subI, h1, h2, Int.toNat_natCast, hs]; rfl
  exact (inU_yes this).1
end Go.Proofs.YtejmfiocdecigaaGreat.sortg
