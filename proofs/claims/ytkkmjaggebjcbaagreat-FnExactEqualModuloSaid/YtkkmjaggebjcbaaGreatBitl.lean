/-
 THE LIBRARY'S math/bits.Len: where its functions and types lie in this program, in plain words.
-/
import Derived.Shelf.Small.Bits
import Derived.Test.YtkkmjaggebjcbaaGreatRows
namespace Go.Proofs.YtkkmjaggebjcbaaGreat.bitl
open Go.Shelf
def len_ren : Go.Shelf.Ren := ⟨fun | 125 => 168 | 128 => 194 | 129 => 195 | n => n, fun | 3 => 3 | 4 => 4 | 5 => 5 | 9 => 9 | 46 => 193 | 51 => 233 | 53 => 235 | n => n, fun | n => n⟩
theorem lenL : Lays.n125 Tryz.prog len_ren := {
 mixed := by kernel_rfl
 f125 := Tryz.func168.trans (congrArg some (by kernel_rfl))
 f128 := Tryz.func194.trans (congrArg some (by kernel_rfl))
 f129 := Tryz.func195.trans (congrArg some (by kernel_rfl))
 t3 := Tryz.underlying3
 a3 := Tryz.isAgg3
 z3 := Tryz.sizeOf3
 v3 := Tryz.zeroValue3
 t4 := Tryz.underlying4
 a4 := Tryz.isAgg4
 z4 := Tryz.sizeOf4
 v4 := Tryz.zeroValue4
 t5 := Tryz.underlying5
 a5 := Tryz.isAgg5
 z5 := Tryz.sizeOf5
 v5 := Tryz.zeroValue5
 t9 := Tryz.underlying9
 a9 := Tryz.isAgg9
 z9 := Tryz.sizeOf9
 v9 := Tryz.zeroValue9
 t46 := Tryz.underlying193
 a46 := Tryz.isAgg193
 z46 := Tryz.sizeOf193
 v46 := Tryz.zeroValue193
 t51 := Tryz.underlying233
 a51 := Tryz.isAgg233
 z51 := Tryz.sizeOf233
 v51 := Tryz.zeroValue233
 t53 := Tryz.underlying235
 a53 := Tryz.isAgg235
 z53 := Tryz.sizeOf235
 v53 := Tryz.zeroValue235 }
/-- bits.Len: the number of bits -/
theorem len_any (n : Nat) (h : n < 18446744073709551616) (w : World) : Calls Tryz.prog 168 #[.int .u64 (n : Int)] w fun e w' => e = .returned (.int .i64 ((Lib.bitLen n : Nat) : Int)) ∧ w' = w := by
 have := Any.bits_Len lenL (n : Int) w (by omega) (by omega)
 rwa [Int.toNat_natCast] at this
end Go.Proofs.YtkkmjaggebjcbaaGreat.bitl
