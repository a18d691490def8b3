/-
 PLAIN MATHEMATICS OF DECIMAL FORMS: no program.
-/
import Derived.Test.YtkkmjaggebjcbaaGreatRows
namespace Go.Proofs.YtkkmjaggebjcbaaGreat.dec

/-- the last digit of n, as a byte -/
def dg (n : Nat) : UInt8 := UInt8.ofNat (48 + n % 10)
theorem dg_nat (n : Nat) : ((dg n).toNat : Int) = 48 + (n : Int) % 10 := by simp [dg]; omega
/-- The decimal digits of n, the first one first. -/
def dig (n : Nat) : List UInt8 := if _h : n < 10 then [dg n] else dig (n / 10) ++ [dg n]
termination_by n
decreasing_by omega

theorem dig_lt {n : Nat} (h : n < 10) : dig n = [dg n] := by rw [dig, dif_pos h]
theorem dig_ge {n : Nat} (h : ¬ n < 10) : dig n = dig (n / 10) ++ [dg n] := by rw [dig, dif_neg h]
theorem dig_len {n : Nat} (h : ¬ n < 10) : (dig n).length = (dig (n / 10)).length + 1 := by rw [dig_ge h]; simp

theorem dig_le (k : Nat) : ∀ n, n < 10 ^ (k + 1) → (dig n).length ≤ k + 1 := by
 induction k with
 | zero => intro n h; rw [dig_lt (by simpa using h)]; simp
 | succ k ih =>
  intro n h
  by_cases h10 : n < 10
  ·rw [dig_lt h10]; simp
  ·rw [dig_len h10]
   have := ih (n / 10) (by rw [Nat.div_lt_iff_lt_mul (by omega)]; rw [Nat.pow_succ] at h; exact h)
   omega
theorem dig_le64 {n : Nat} (h : n < 18446744073709551616) : (dig n).length ≤ 20 := dig_le 19 n (by omega)

/-- the last digits are o, m is what is left of N -/
def Tail (N m : Nat) (o : List UInt8) : Prop := (m = 0 → o = dig N) ∧ (m ≠ 0 → dig N = dig m ++ o)
theorem tail_start {N : Nat} (h : N ≠ 0) : Tail N N [] := ⟨fun e => absurd e h, fun _ => by simp⟩
theorem tail_step {N m : Nat} {o : List UInt8} (h : Tail N m o) (hm : m ≠ 0) : Tail N (m / 10) ([dg m] ++ o) := by
 have h := h.2 hm
 refine ⟨fun h0 => ?_, fun h0 => ?_⟩
 ·have hlt : m < 10 := by omega
  rw [h, dig_lt hlt]
 ·have hlt : ¬ m < 10 := by omega
  rw [h, dig_ge hlt, List.append_assoc]

theorem tail_len {N m : Nat} {o : List UInt8} (h : Tail N m o) : o.length ≤ (dig N).length := by
 by_cases hm : m = 0
 ·rw [h.1 hm]; exact Nat.le_refl _
 ·rw [h.2 hm, List.length_append]; omega

end Go.Proofs.YtkkmjaggebjcbaaGreat.dec
