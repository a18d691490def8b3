/-
  CONTRACTS OF THE FUNCTIONS OF SETS OF SMALL NUMBERS, the program's and the model's.
-/
import Derived.Test.YtiilamngcoegiaaSetm
import Derived.OwnWalk
import Derived.Deep.QuietTactic
import Derived.BigQuiet
import Derived.Lib.Tables
namespace Go.Proofs.Ytiilamngcoegiaa.sets
open Go.ChangeShapes Go.WideShapes Go.ChangeAt Go.RowKit
open mem setm

theorem ret_tup {a b : Int} {c d : Bool} (h : a = b) (h' : c = d) : Ending.returned (.tuple #[.int .i64 a, .bool c]) = .returned (.tuple #[.int .i64 b, .bool d]) := by rw [h, h']

theorem info_int : (Try.prog.info? 3).map (fun i => (i.zero, i.size, i.bytes)) = some (some (.int .i64 0), 1, 8) := by kernel_rfl

def subI (a b : Int) : Bool := ok a && ok b && sub a.toNat b.toNat
theorem yes_fst {L : List Int} {k : Nat} (h : k < L.length) (hx : ¬ (0 ≤ L.getD k 0 ∧ L.getD k 0 < 16)) : okL L = false :=
  okL_of_take L (k + 1) (by rw [(okL_take L k h).1]; simp only [Bool.and_eq_false_iff, decide_eq_false_iff_not]; exact .inr hx)
def inI (x a b : Int) : Bool := decide (a ≤ x ∧ x ≤ b)
/-- spec.l1In -/
theorem l1In_any (x a b : Int) (r : Bool) (hr : inI x a b = r) (w : World) :
    Calls Try.prog 47 #[.int .i64 x, .int .i64 a, .int .i64 b] w fun e w' => e = .returned (.bool r) ∧ w = w' := by
  subst hr
  by_cases h1 : a ≤ x
  · by_cases h2 : x ≤ b
    · have HR : Hid (inI x a b = true) := Lib.hid (by unfold inI; simp; exact ⟨h1, h2⟩)
      go_enter Try.func47, Try.ntmps47
      go_wp2
      go_ret
      exact ⟨ret_bool HR.out.symm, rfl⟩
    · have HR : Hid (inI x a b = false) := Lib.hid (by unfold inI; simp; omega)
      have d : decide (x ≤ b) = false := by simpa using h2
      go_enter Try.func47, Try.ntmps47
      go_wp2
      go_ret
      exact ⟨ret_bool HR.out.symm, rfl⟩
  · have HR : Hid (inI x a b = false) := Lib.hid (by unfold inI; simp; omega)
    have d : decide (a ≤ x) = false := by simpa using h1
    go_enter Try.func47, Try.ntmps47
    go_wp2
    go_ret
    exact ⟨ret_bool HR.out.symm, rfl⟩
/-- is k in the set n (any ints)? -/
def hasI (n k : Int) : Bool := decide (0 ≤ k ∧ k < 16 ∧ n / 2 ^ k.toNat % 2 = 1)
theorem hasI_nat (s k : Nat) (hk : k < 16) : hasI s k = s.testBit k := by
  unfold hasI
  rw [← bit_div]
  congr 1
  simp; omega
end Go.Proofs.Ytiilamngcoegiaa.sets
