/-
  PLAIN MATHEMATICS OF READING DECIMAL FORMS: no program.
-/
import Derived.Test.YtphlbelnhmoblaaDec
namespace Go.Proofs.Ytphlbelnhmoblaa.dec

def isD (b : UInt8) : Bool := decide (48 ≤ b.toNat) && decide (b.toNat ≤ 57)
def isDig (l : List UInt8) : Bool := l.all isD
def stepv (n : Nat) (b : UInt8) : Nat := 10 * n + (b.toNat - 48)
def val (l : List UInt8) : Nat := l.foldl stepv 0

theorem val_snoc (l : List UInt8) (b : UInt8) : val (l ++ [b]) = 10 * val l + (b.toNat - 48) := by simp [val, stepv]
theorem isDig_snoc (l : List UInt8) (b : UInt8) : isDig (l ++ [b]) = (isDig l && isD b) := by simp [isDig]
theorem isDig_append (a b : List UInt8) : isDig (a ++ b) = (isDig a && isDig b) := by simp [isDig]
theorem fold_ge (l : List UInt8) : ∀ n, n ≤ l.foldl stepv n := by
  induction l with
  | nil => intro n; exact Nat.le_refl _
  | cons b l ih => intro n; have := ih (stepv n b); simp only [List.foldl_cons]; unfold stepv at *; omega
theorem val_mono (a b : List UInt8) : val a ≤ val (a ++ b) := by
  unfold val; rw [List.foldl_append]; exact fold_ge b _
theorem take_snoc (l : List UInt8) (k : Nat) (h : k < l.length) : l.take (k + 1) = l.take k ++ [l.getD k 0] := by
  rw [List.take_succ_eq_append_getElem h]; simp [List.getD, List.getElem?_eq_getElem h]

theorem dg_isD (n : Nat) : isD (dg n) = true := by
  have h : (dg n).toNat = 48 + n % 10 := by have := dg_nat n; omega
  unfold isD; rw [h]; simp; omega
theorem dg_val (n : Nat) : (dg n).toNat - 48 = n % 10 := by have := dg_nat n; omega

theorem dig_isDig (n : Nat) : isDig (dig n) = true := by
  induction n using Nat.strongRecOn with
  | _ n ih =>
    by_cases h : n < 10
    · rw [dig_lt h]; simp [isDig, dg_isD]
    · rw [dig_ge h, isDig_snoc, ih (n / 10) (by omega), dg_isD]; rfl
theorem dig_val (n : Nat) : val (dig n) = n := by
  induction n using Nat.strongRecOn with
  | _ n ih =>
    by_cases h : n < 10
    · rw [dig_lt h]; simp [val, stepv]; rw [dg_val]; omega
    · rw [dig_ge h, val_snoc, ih (n / 10) (by omega), dg_val]; omega

theorem fold_lt (l : List UInt8) (h : isDig l = true) : ∀ n, l.foldl stepv n < (n + 1) * 10 ^ l.length := by
  induction l with
  | nil => intro n; simp
  | cons b l ih =>
    intro n
    simp only [isDig, List.all_cons, Bool.and_eq_true] at h
    have hb : b.toNat ≤ 57 := by have := h.1; simp [isD] at this; exact this.2
    have h1 := ih h.2 (stepv n b)
    simp only [List.foldl_cons, List.length_cons]
    rw [Nat.pow_succ, Nat.mul_comm (10 ^ l.length) 10, ← Nat.mul_assoc]
    refine Nat.lt_of_lt_of_le h1 (Nat.mul_le_mul_right _ ?_)
    unfold stepv; omega
theorem val_lt (l : List UInt8) (h : isDig l = true) : val l < 10 ^ l.length := by
  have := fold_lt l h 0
  simpa [val] using this

theorem val_le12 (l : List UInt8) (h : isDig l = true) (hl : l.length ≤ 12) : val l ≤ 999999999999 := by
  have h1 := val_lt l h
  have h2 := Nat.pow_le_pow_right (n := 10) (by omega) hl
  omega

/-- s is the text of the integer that is got by reading it, at most lim in magnitude -/
def signed (neg : Bool) (n : Nat) : Int := if neg then -(n : Int) else n
def isNeg (s : List UInt8) : Bool := s.head? == some 45
def body (s : List UInt8) : List UInt8 := if isNeg s then s.tail else s
def num (s : List UInt8) : Int := signed (isNeg s) (val (body s))
def reads (s : List UInt8) (lim : Nat) : Bool := isDig (body s) && decide (val (body s) ≤ lim) && decide (fmt (num s) = s)
def out (s : List UInt8) (lim : Nat) : Int := if reads s lim then num s else 0

/-- read by length -/
def readsL (s : List UInt8) (most : Nat) : Bool := decide (1 ≤ (body s).length) && decide ((body s).length ≤ most) && isDig (body s) && decide (fmt (num s) = s)

theorem body_of_fmt {s : List UInt8} (h : fmt (num s) = s) : ∃ v, body s = dig v := by
  unfold fmt at h
  by_cases hn : num s < 0
  · rw [if_pos hn] at h
    refine ⟨(num s).natAbs, ?_⟩
    have h2 : isNeg s = true := by rw [← h]; rfl
    unfold body; rw [if_pos h2]
    conv => lhs; rw [← h]
    rfl
  · rw [if_neg hn] at h
    refine ⟨(num s).natAbs, ?_⟩
    by_cases h2 : isNeg s = true
    · have hd := dig_isDig (num s).natAbs
      rw [h] at hd
      unfold isNeg at h2
      cases s with
      | nil => simp at h2
      | cons b t =>
        simp at h2; subst h2
        simp [isDig, isD] at hd
    · unfold body; rw [if_neg h2]; exact h.symm

theorem readsL_len {s : List UInt8} {most : Nat} (h : (body s).length < 1 ∨ most < (body s).length) : readsL s most = false := by
  unfold readsL
  rcases h with h | h
  · have : ¬ 1 ≤ (body s).length := by omega
    simp [this]
  · have : ¬ (body s).length ≤ most := by omega
    simp [this]
theorem readsL_bad {s : List UInt8} {most k : Nat} (hk : k < (body s).length) (h : isD ((body s).getD k 0) = false) : readsL s most = false := by
  have : isDig (body s) = false := by
    rw [← List.take_append_drop (k + 1) (body s), isDig_append, take_snoc _ k hk, isDig_snoc, h]; simp
  simp [readsL, this]
theorem readsL_fmt {s : List UInt8} {most : Nat} (h : fmt (num s) ≠ s) : readsL s most = false := by simp [readsL, h]
theorem readsL_yes {s : List UInt8} {most : Nat} (h0 : ¬ (body s).length < 1) (h1 : (body s).length ≤ most) (h2 : isDig (body s) = true) (h : fmt (num s) = s) : readsL s most = true := by
  have h0 : 1 ≤ (body s).length := by omega
  simp [readsL, h, h0, h1, h2]

theorem reads_eq (s : List UInt8) (k : Nat) : readsL s (k + 1) = reads s (10 ^ (k + 1) - 1) := by
  have hp : 0 < 10 ^ (k + 1) := Nat.pow_pos (by omega)
  unfold readsL reads
  by_cases hf : fmt (num s) = s
  · obtain ⟨v, hv⟩ := body_of_fmt hf
    have h1 := dig_pos v
    have h2 := dig_isDig v
    have h3 := dig_val v
    rw [hv, h2, h3]
    simp only [hf, decide_true, Bool.and_true, Bool.true_and]
    have : ((dig v).length ≤ k + 1) ↔ v ≤ 10 ^ (k + 1) - 1 := by
      constructor
      · intro h
        have hlt := val_lt (dig v) h2
        rw [h3] at hlt
        have := Nat.pow_le_pow_right (n := 10) (by omega) h
        omega
      · intro h; exact dig_le k v (by omega)
    simp [this]; omega
  · simp [hf]
end Go.Proofs.Ytphlbelnhmoblaa.dec
