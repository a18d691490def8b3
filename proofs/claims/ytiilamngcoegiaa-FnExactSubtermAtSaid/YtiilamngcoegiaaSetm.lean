/-
  PLAIN MATHEMATICS OF SETS OF SMALL NUMBERS: no program. A set is a natural number; its elements are its bits.
-/
import Derived.Test.YtiilamngcoegiaaMem
import Derived.Laws.BitsLemmas
namespace Go.Proofs.Ytiilamngcoegiaa.setm
open mem

theorem wraps_u16 (n : Int) (_h₀ : 0 ≤ n) (h₁ : n < 2 ^ 16) : IntKind.u16.wrap n = n := by
  simp [IntKind.wrap, IntKind.bits, IntKind.signed]; omega
theorem wraps_i64 (n : Int) (h₀ : 0 ≤ n) (h₁ : n < 2 ^ 62) : IntKind.i64.wrap n = n := by
  rw [IntKind.wrap_i64]; omega
theorem and1_i64 (n : Int) : bits .and .i64 n 1 = n % 2 := by
  have h1 : (BitVec.ofInt 64 1).toNat = 2 ^ 1 - 1 := by decide
  have key : (BitVec.ofInt 64 n &&& BitVec.ofInt 64 1).toNat = (n % ((2 ^ 64 : Nat) : Int)).toNat % 2 ^ 1 := by
    rw [BitVec.toNat_and, BitVec.toNat_ofInt, h1, Nat.and_two_pow_sub_one_eq_mod]
  show IntKind.i64.wrap ((BitVec.ofInt 64 n &&& BitVec.ofInt 64 1).toNat : Nat) = n % 2
  rw [key, IntKind.wrap_i64]
  omega
theorem and_u16 (a b : Nat) (ha : a < 65536) (hb : b < 65536) : bits .and .u16 (a : Int) (b : Int) = ((a &&& b : Nat) : Int) := (bits_nat .u16 16 (by decide) wraps_u16 a b ha hb).1
theorem or_u16 (a b : Nat) (ha : a < 65536) (hb : b < 65536) : bits .or .u16 (a : Int) (b : Int) = ((a ||| b : Nat) : Int) := (bits_nat .u16 16 (by decide) wraps_u16 a b ha hb).2
theorem and_i64 (a b : Nat) (ha : a < 65536) (hb : b < 65536) : bits .and .i64 (a : Int) (b : Int) = ((a &&& b : Nat) : Int) :=
  (bits_nat .i64 62 (by decide) wraps_i64 a b (by omega) (by omega)).1
theorem or_i64 (a b : Nat) (ha : a < 65536) (hb : b < 65536) : bits .or .i64 (a : Int) (b : Int) = ((a ||| b : Nat) : Int) :=
  (bits_nat .i64 62 (by decide) wraps_i64 a b (by omega) (by omega)).2
theorem andNot_u16 (a b : Nat) (ha : a < 65536) (hb : b < 65536) : bits .andNot .u16 (a : Int) (b : Int) = ((a ^^^ (a &&& b) : Nat) : Int) := by
  have e : BitVec.ofInt 16 (a : Int) &&& ~~~ BitVec.ofInt 16 (b : Int) = BitVec.ofInt 16 (a : Int) ^^^ (BitVec.ofInt 16 (a : Int) &&& BitVec.ofInt 16 (b : Int)) := by
    ext i hi
    simp only [BitVec.getElem_and, BitVec.getElem_xor, BitVec.getElem_not]
    cases (BitVec.ofInt 16 (a : Int))[i] <;> cases (BitVec.ofInt 16 (b : Int))[i] <;> rfl
  have hx : a ^^^ (a &&& b) < 2 ^ 16 := Nat.xor_lt_two_pow ha (Nat.and_lt_two_pow _ hb)
  show IntKind.u16.wrap ((BitVec.ofInt 16 (a : Int) &&& ~~~ BitVec.ofInt 16 (b : Int)).toNat : Nat) = _
  rw [e]
  simp only [BitVec.ofInt_natCast, BitVec.toNat_and, BitVec.toNat_xor, BitVec.toNat_ofNat]
  rw [Nat.mod_eq_of_lt (show a < 2 ^ 16 by omega), Nat.mod_eq_of_lt (show b < 2 ^ 16 by omega)]
  exact wraps_u16 _ (Int.natCast_nonneg _) (by exact_mod_cast hx)

/-- is the set a within the set b? -/
def sub (a b : Nat) : Bool := decide (a &&& b = a)
theorem sub_iff (a b : Nat) : sub a b = true ↔ ∀ k, a.testBit k = true → b.testBit k = true := by
  unfold sub
  rw [decide_eq_true_eq]
  constructor
  · intro h k hk
    have := congrArg (fun z => Nat.testBit z k) h
    simp only [Nat.testBit_and, hk, Bool.true_and] at this
    exact this
  · intro h
    apply Nat.eq_of_testBit_eq
    intro k
    rw [Nat.testBit_and]
    by_cases hk : a.testBit k = true
    · simp [hk, h k hk]
    · simp at hk; simp [hk]
theorem xor_sub (a b : Nat) : decide (a ^^^ (a &&& b) = 0) = sub a b := by
  unfold sub
  congr 1
  rw [eq_iff_iff]
  constructor
  · intro h
    apply Nat.eq_of_testBit_eq
    intro k
    have := congrArg (fun z => Nat.testBit z k) h
    simp only [Nat.testBit_xor, Nat.zero_testBit, Nat.testBit_and] at this
    rw [Nat.testBit_and]
    cases h1 : a.testBit k <;> cases h2 : b.testBit k <;> simp_all
  · intro h; rw [h]; simp

theorem bit_div (s k : Nat) : decide ((s : Int) / 2 ^ k % 2 = 1) = s.testBit k := by
  rw [Nat.testBit_eq_decide_div_mod_eq]
  congr 1
  rw [eq_iff_iff]
  have : ((s : Int) / 2 ^ k % 2 = ((s / 2 ^ k % 2 : Nat) : Int)) := by simp
  rw [this]
  omega
theorem pow_lt {k : Nat} (hk : k < 16) : 2 ^ k < 65536 := Nat.pow_lt_pow_right (by decide) hk
theorem bit_high {s k : Nat} (hs : s < 65536) (hk : 16 ≤ k) : s.testBit k = false :=
  Nat.testBit_lt_two_pow (Nat.lt_of_lt_of_le hs (Nat.pow_le_pow_right (n := 2) (by decide) hk))

/-- the elements below k -/
def elsTo (s k : Nat) : List Nat := (List.range k).filter s.testBit
/-- the elements of a set, in ascending order -/
def els (s : Nat) : List Nat := elsTo s 16
theorem elsTo_succ (s k : Nat) : elsTo s (k + 1) = elsTo s k ++ if s.testBit k then [k] else [] := by
  unfold elsTo
  rw [List.range_succ, List.filter_append]
  congr 1
  by_cases h : s.testBit k <;> simp [h]
theorem elsTo_hit {s k : Nat} (h : s.testBit k = true) : elsTo s (k + 1) = elsTo s k ++ [k] := by rw [elsTo_succ, if_pos h]
theorem elsTo_miss {s k : Nat} (h : s.testBit k = false) : elsTo s (k + 1) = elsTo s k := by rw [elsTo_succ, if_neg (by simp [h]), List.append_nil]
theorem elsTo_len (s k : Nat) : (elsTo s k).length ≤ k := by
  unfold elsTo
  refine Nat.le_trans (List.length_filter_le _ _) (by simp)
theorem mem_els {s k : Nat} : k ∈ els s ↔ k < 16 ∧ s.testBit k = true := by simp [els, elsTo]

/-- a list of ints as cells -/
def ivs (L : List Int) : List Value := L.map (Value.int .i64)
theorem ivs_len (L : List Int) : (ivs L).length = L.length := by simp [ivs]
theorem ivs_append (L M : List Int) : ivs (L ++ M) = ivs L ++ ivs M := by simp [ivs]
theorem ivs_get (L : List Int) (k : Nat) (h : k < L.length) : (ivs L).getD k undef = .int .i64 (L.getD k 0) := by
  simp [ivs, List.getD, List.getElem?_map, List.getElem?_eq_getElem h]

/-- is this int a valid set? -/
def ok (n : Int) : Bool := decide (0 ≤ n ∧ n < 65536)
/-- ListOf -/
def listOf (n : Int) : List Int := if ok n then (els n.toNat).map Int.ofNat else []
theorem listOf_len (n : Int) : (listOf n).length ≤ 16 := by
  unfold listOf; split
  · simp; exact elsTo_len _ _
  · simp
def nats (L : List Nat) : List Int := L.map Int.ofNat
theorem listOf_ok {s : Nat} (h : s < 65536) : listOf (s : Int) = nats (els s) := by
  unfold listOf ok
  rw [if_pos (by simp; omega)]
  rfl
theorem listOf_no {n : Int} (h : ok n = false) : listOf n = [] := by unfold listOf; rw [if_neg (by simp [h])]

/-- are all of these elements? -/
def okL (L : List Int) : Bool := L.all fun n => decide (0 ≤ n ∧ n < 16)
/-- the sum of the bits of a list -/
def sumL (L : List Int) : Nat := L.foldl (fun s n => s ||| 2 ^ n.toNat) 0
theorem sumL_snoc (L : List Int) (n : Int) : sumL (L ++ [n]) = sumL L ||| 2 ^ n.toNat := by simp [sumL]
theorem okL_snoc (L : List Int) (n : Int) : okL (L ++ [n]) = (okL L && decide (0 ≤ n ∧ n < 16)) := by simp [okL]
theorem sumL_lt (L : List Int) (h : okL L = true) : sumL L < 65536 := by
  suffices ∀ s : Nat, s < 65536 → L.foldl (fun (s : Nat) (n : Int) => s ||| 2 ^ n.toNat) s < 65536 from this 0 (by decide)
  induction L with
  | nil => intro s hs; exact hs
  | cons n L ih =>
    intro s hs
    simp only [okL, List.all_cons, Bool.and_eq_true, decide_eq_true_eq] at h
    exact ih h.2 _ (Nat.or_lt_two_pow (n := 16) hs (pow_lt (by omega)))
theorem sumL_bit (L : List Int) (k : Nat) : (sumL L).testBit k = true ↔ ∃ n ∈ L, n.toNat = k := by
  suffices ∀ s : Nat, (L.foldl (fun (s : Nat) (n : Int) => s ||| 2 ^ n.toNat) s).testBit k = true ↔ s.testBit k = true ∨ ∃ n ∈ L, n.toNat = k by
    have h := this 0
    simp only [Nat.zero_testBit, Bool.false_eq_true, false_or] at h
    exact h
  induction L with
  | nil => intro s; simp
  | cons n L ih =>
    intro s
    rw [List.foldl_cons, ih]
    simp only [Nat.testBit_or, Bool.or_eq_true, Nat.testBit_two_pow, decide_eq_true_eq, List.mem_cons, exists_eq_or_imp]
    rw [or_assoc]
theorem sumL_els {s : Nat} (h : s < 65536) : sumL (nats (els s)) = s ∧ okL (nats (els s)) = true := by
  constructor
  · apply Nat.eq_of_testBit_eq
    intro k
    rw [Bool.eq_iff_iff, sumL_bit]
    constructor
    · rintro ⟨n, hn, rfl⟩
      simp only [nats, List.mem_map] at hn
      obtain ⟨m, hm, rfl⟩ := hn
      exact (mem_els.1 hm).2
    · intro hk
      refine ⟨(k : Int), ?_, rfl⟩
      simp only [nats, List.mem_map]
      refine ⟨k, mem_els.2 ⟨?_, hk⟩, rfl⟩
      apply Nat.lt_of_not_le
      intro hge
      rw [bit_high h hge] at hk
      exact absurd hk (by decide)
  · simp only [okL, nats, List.all_map, List.all_eq_true]
    intro m hm
    have := (mem_els.1 hm).1
    simp; omega
/-- a list up to k, and one more -/
theorem okL_take (L : List Int) (k : Nat) (h : k < L.length) : okL (L.take (k + 1)) = (okL (L.take k) && decide (0 ≤ L.getD k 0 ∧ L.getD k 0 < 16)) ∧ sumL (L.take (k + 1)) = sumL (L.take k) ||| 2 ^ (L.getD k 0).toNat := by
  have e : L.take (k + 1) = L.take k ++ [L.getD k 0] := by
    rw [List.take_succ_eq_append_getElem h]; simp [List.getD, List.getElem?_eq_getElem h]
  rw [e]
  exact ⟨okL_snoc _ _, sumL_snoc _ _⟩
theorem okL_of_take (L : List Int) (k : Nat) (h : okL (L.take k) = false) : okL L = false := by
  have e : okL L = (okL (L.take k) && okL (L.drop k)) := by
    unfold okL
    rw [← List.all_append, List.take_append_drop]
  rw [e, h]; rfl
/-- SetOf's two results -/
def setOf (L : List Int) : Nat := if okL L then sumL L else 0
theorem setOf_lt (L : List Int) : setOf L < 65536 := by
  unfold setOf; split
  · exact sumL_lt L (by assumption)
  · decide
end Go.Proofs.Ytiilamngcoegiaa.setm
