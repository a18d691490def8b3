/-
  PLAIN MATHEMATICS OF DECIMAL FORMS: no program.
-/
import Derived.Test.YtiilamngcoegiaaRows
namespace Go.Proofs.Ytiilamngcoegiaa.dec

/-- the last digit of n, as a byte -/
def dg (n : Nat) : UInt8 := UInt8.ofNat (48 + n % 10)
theorem dg_nat (n : Nat) : ((dg n).toNat : Int) = 48 + (n : Int) % 10 := by simp [dg]; omega
/-- The decimal digits of n, the first one first. -/
def dig (n : Nat) : List UInt8 := if _h : n < 10 then [dg n] else dig (n / 10) ++ [dg n]
termination_by n
decreasing_by omega

theorem dig_lt {n : Nat} (h : n < 10) : dig n = [dg n] := by rw [dig, dif_pos h]
theorem dig_ge {n : Nat} (h : ¬ n < 10) : dig n = dig (n / 10) ++ [dg n] := by rw [dig, dif_neg h]
theorem dig_pos (n : Nat) : 0 < (dig n).length := by
  by_cases h : n < 10
  · rw [dig_lt h]; simp
  · rw [dig_ge h]; simp
theorem dig_len {n : Nat} (h : ¬ n < 10) : (dig n).length = (dig (n / 10)).length + 1 := by rw [dig_ge h]; simp

theorem dig_le (k : Nat) : ∀ n, n < 10 ^ (k + 1) → (dig n).length ≤ k + 1 := by
  induction k with
  | zero => intro n h; rw [dig_lt (by simpa using h)]; simp
  | succ k ih =>
    intro n h
    by_cases h10 : n < 10
    · rw [dig_lt h10]; simp
    · rw [dig_len h10]
      have := ih (n / 10) (by rw [Nat.div_lt_iff_lt_mul (by omega)]; rw [Nat.pow_succ] at h; exact h)
      omega
theorem dig_le64 {n : Nat} (h : n < 18446744073709551616) : (dig n).length ≤ 20 := dig_le 19 n (by omega)

/-- What stands in the buffer when k digits are laid: zeros, then the last k digits of n. -/
def laid (n k : Nat) : List UInt8 := List.replicate ((dig n).length - k) 0 ++ (dig n).drop ((dig n).length - k)
def at_ (l : List UInt8) (j : Nat) : UInt8 := l.getD j 0

theorem laid_zero (n : Nat) : laid n 0 = List.replicate (dig n).length 0 := by simp [laid]
theorem laid_all (n : Nat) : laid n (dig n).length = dig n := by simp [laid]
theorem laid_len (n k : Nat) : (laid n k).length = (dig n).length := by simp [laid]
theorem laid_succ (n k : Nat) (h : k < (dig n).length) : laid n (k + 1) = (laid n k).set ((dig n).length - 1 - k) ((dig n).getD ((dig n).length - 1 - k) 0) := by
  unfold laid
  generalize hL : (dig n).length = L at *
  have e1 : L - k = (L - (k + 1)) + 1 := by omega
  have e2 : L - 1 - k = L - (k + 1) := by omega
  rw [e1, e2, List.replicate_succ', List.append_assoc, List.set_append_right _ _ (by simp)]
  have hlt : L - (k + 1) < (dig n).length := by omega
  simp [List.getD, List.getElem?_eq_getElem hlt]

/-- the last digit, and what is left -/
theorem dig_last (n : Nat) : (dig n).getD ((dig n).length - 1) 0 = dg n := by
  by_cases h : n < 10
  · rw [dig_lt h]; simp
  · rw [dig_ge h]; simp
theorem dig_init {n : Nat} (h : ¬ n < 10) : dig (n / 10) = (dig n).take ((dig n).length - 1) := by
  rw [dig_ge h]; simp

/-- of the first digits: m is n without its last k digits -/
def Head (n k m : Nat) : Prop := k < (dig n).length → dig m = (dig n).take ((dig n).length - k)
theorem head_zero (n : Nat) : Head n 0 n := by intro _; simp
theorem head_digit {n k m : Nat} (h : Head n k m) (hk : k < (dig n).length) : (dig n).getD ((dig n).length - 1 - k) 0 = dg m := by
  have h := h hk
  rw [← dig_last m, h]
  simp only [List.length_take]
  have e : min ((dig n).length - k) (dig n).length - 1 = (dig n).length - 1 - k := by omega
  rw [e]
  simp only [List.getD, List.getElem?_take]
  rw [if_pos (by omega)]
theorem head_succ {n k m : Nat} (h : Head n k m) (hk : k < (dig n).length) : Head n (k + 1) (m / 10) := by
  intro hk1
  have h := h hk
  have h10 : ¬ m < 10 := by
    intro hm
    have hl := congrArg List.length h
    rw [dig_lt hm] at hl
    simp at hl; omega
  rw [dig_init h10, h, List.length_take, List.take_take]
  congr 1; omega

/-- the last digits are o, m is what is left of N -/
def Tail (N m : Nat) (o : List UInt8) : Prop := (m = 0 → o = dig N) ∧ (m ≠ 0 → dig N = dig m ++ o)
theorem tail_start {N : Nat} (h : N ≠ 0) : Tail N N [] := ⟨fun e => absurd e h, fun _ => by simp⟩
theorem tail_step {N m : Nat} {o : List UInt8} (h : Tail N m o) (hm : m ≠ 0) : Tail N (m / 10) ([dg m] ++ o) := by
  have h := h.2 hm
  refine ⟨fun h0 => ?_, fun h0 => ?_⟩
  · have hlt : m < 10 := by omega
    rw [h, dig_lt hlt]
  · have hlt : ¬ m < 10 := by omega
    rw [h, dig_ge hlt, List.append_assoc]

theorem tail_len {N m : Nat} {o : List UInt8} (h : Tail N m o) : o.length ≤ (dig N).length := by
  by_cases hm : m = 0
  · rw [h.1 hm]; exact Nat.le_refl _
  · rw [h.2 hm, List.length_append]; omega

def fmt (n : Int) : List UInt8 := if n < 0 then 45 :: dig n.natAbs else dig n.natAbs

end Go.Proofs.Ytiilamngcoegiaa.dec
