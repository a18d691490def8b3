/-
 CONTRACTS OF THE FUNCTIONS OF SETS OF SMALL NUMBERS, the program's and the model's.
-/
import Derived.Test.YtkkmjaggebjcbaaGreatPk01
import Derived.OwnWalk
import Derived.Deep.QuietTactic
import Derived.BigQuiet
import Derived.Lib.Tables
namespace Go.Proofs.YtkkmjaggebjcbaaGreat.sets
open Go.ChangeShapes Go.WideShapes Go.ChangeAt Go.RowKit
open mem setm

theorem info_int : (Tryz.prog.info? 3).map (fun i => (i.zero, i.size, i.bytes)) = some (some (.int .i64 0), 1, 8) := by kernel_rfl

/-- numberSet.has -/
theorem nhas_any (s k : Nat) (hs : s < 65536) (hk : k < 16) (b : Bool) (hb : s.testBit k = b) (w : World) :
  Calls Tryz.prog 151 #[.int .u16 (s : Int), .int .i64 (k : Int)] w fun e w' => e = .returned (.bool b) ∧ w = w' := by
 subst hb
 have H : Hid ((bits .and .u16 ((s : Int) / 2 ^ k) 1 == 1) = s.testBit k) := Lib.hid (by
  have e : (s : Int) / 2 ^ k = ((s / 2 ^ k : Nat) : Int) := by simp
  have hl : s / 2 ^ k < 65536 := Nat.lt_of_le_of_lt (Nat.div_le_self _ _) hs
  rw [← bit_div, e]
  have := and_u16 (s / 2 ^ k) 1 hl (by decide)
  rw [show ((1 : Nat) : Int) = 1 from rfl] at this
  rw [this, Nat.and_one_is_mod, Bool.eq_iff_iff]
  simp)
 go_enter Tryz.func151, Tryz.ntmps151
 go_wp2
 go_ret
 exact ⟨ret_bool (by rw [← H.out]; try simp), rfl⟩
/-- numberSet.with -/
theorem nwith_any (s k : Nat) (hs : s < 65536) (hk : k < 16) (w : World) :
  Calls Tryz.prog 176 #[.int .u16 (s : Int), .int .i64 (k : Int)] w fun e w' => e = .returned (.int .u16 ((s ||| 2 ^ k : Nat) : Int)) ∧ w = w' := by
 have H : Hid (bits .or .u16 (s : Int) (IntKind.u16.wrap (2 ^ k)) = ((s ||| 2 ^ k : Nat) : Int)) := Lib.hid (by
  have e : (2 : Int) ^ k = ((2 ^ k : Nat) : Int) := by simp
  have hl := pow_lt hk
  rw [e, wraps_u16 _ (Int.natCast_nonneg _) (by exact_mod_cast hl), or_u16 s (2 ^ k) hs hl])
 go_enter Tryz.func176, Tryz.ntmps176
 go_wp2
 go_ret
 exact ⟨ret_int (by rw [← H.out]; try simp), rfl⟩
def inI (x a b : Int) : Bool := decide (a ≤ x ∧ x ≤ b)
/-- spec.l1In -/
theorem l1In_any (x a b : Int) (r : Bool) (hr : inI x a b = r) (w : World) :
  Calls Tryz.prog 32 #[.int .i64 x, .int .i64 a, .int .i64 b] w fun e w' => e = .returned (.bool r) ∧ w = w' := by
 subst hr
 by_cases h1 : a ≤ x
 ·by_cases h2 : x ≤ b
  ·have HR : Hid (inI x a b = true) := Lib.hid (by unfold inI; simp; exact ⟨h1, h2⟩)
   go_enter Tryz.func32, Tryz.ntmps32
   go_wp2
   go_ret
   exact ⟨ret_bool HR.out.symm, rfl⟩
  ·have HR : Hid (inI x a b = false) := Lib.hid (by unfold inI; simp; omega)
   have d : decide (x ≤ b) = false := by simpa using h2
   go_enter Tryz.func32, Tryz.ntmps32
   go_wp2
   go_ret
   exact ⟨ret_bool HR.out.symm, rfl⟩
 ·have HR : Hid (inI x a b = false) := Lib.hid (by unfold inI; simp; omega)
  have d : decide (a ≤ x) = false := by simpa using h1
  go_enter Tryz.func32, Tryz.ntmps32
  go_wp2
  go_ret
  exact ⟨ret_bool HR.out.symm, rfl⟩
/-- spec.l2Bit -/
theorem l2Bit_any (k : Nat) (hk : k < 16) (w : World) :
  Calls Tryz.prog 153 #[.int .i64 (k : Int)] w fun e w' => e = .returned (.int .i64 ((2 ^ k : Nat) : Int)) ∧ w = w' := by
 have H : Hid (wrap64 (2 ^ k) = ((2 ^ k : Nat) : Int)) := Lib.hid (by
  have hl := pow_lt hk
  have e : (2 : Int) ^ k = ((2 ^ k : Nat) : Int) := by simp
  rw [e]
  obtain ⟨b, hb⟩ : ∃ b, b = 2 ^ k := ⟨_, rfl⟩
  rw [← hb] at hl ⊢
  unfold wrap64; omega)
 go_enter Tryz.func153, Tryz.ntmps153
 go_wp2
 go_ret
 exact ⟨ret_int (by rw [← H.out]; try simp), rfl⟩
/-- is k in the set n (any ints)? -/
def hasI (n k : Int) : Bool := decide (0 ≤ k ∧ k < 16 ∧ n / 2 ^ k.toNat % 2 = 1)
theorem hasI_nat (s k : Nat) (hk : k < 16) : hasI s k = s.testBit k := by
 unfold hasI
 rw [← bit_div]
 congr 1
 simp; omega
/-- spec.l2Has -/
theorem l2Has_any (n k : Int) (r : Bool) (hr : hasI n k = r) (w : World) :
  Calls Tryz.prog 102 #[.int .i64 n, .int .i64 k] w fun e w' => e = .returned (.bool r) ∧ w = w' := by
 subst hr
 by_cases h1 : 0 ≤ k
 ·by_cases h2 : k < 16
  ·have HR : Hid ((bits .and .i64 (n / 2 ^ k.toNat) 1 == 1) = hasI n k) := Lib.hid (by
    rw [and1_i64, Bool.eq_iff_iff]
    unfold hasI
    simp [h1, h2])
   go_enter Tryz.func102, Tryz.ntmps102
   go_wp2
   go_ret
   exact ⟨ret_bool HR.out, rfl⟩
  ·have HR : Hid (hasI n k = false) := Lib.hid (by unfold hasI; simp; omega)
   have d : decide (k < 16) = false := by simpa using h2
   go_enter Tryz.func102, Tryz.ntmps102
   go_wp2
   go_ret
   exact ⟨ret_bool HR.out.symm, rfl⟩
 ·have HR : Hid (hasI n k = false) := Lib.hid (by unfold hasI; simp; omega)
  have d : decide (0 ≤ k) = false := by simpa using h1
  go_enter Tryz.func102, Tryz.ntmps102
  go_wp2
  go_ret
  exact ⟨ret_bool HR.out.symm, rfl⟩
end Go.Proofs.YtkkmjaggebjcbaaGreat.sets
