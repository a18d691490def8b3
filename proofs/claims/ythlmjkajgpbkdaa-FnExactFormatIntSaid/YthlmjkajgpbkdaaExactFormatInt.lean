/-
  THE WALK OF FnExactFormatInt.
-/
import Derived.Test.YthlmjkajgpbkdaaFmt
import Derived.OpenShut
namespace Go.Proofs.Ythlmjkajgpbkdaa.fnExactFormatInt
open Go.ChangeShapes Go.WideShapes Go.ChangeAt Go.RowKit
open dec mem

theorem walk (n : Int) (wf : (Lit.int .i64 n).wf = true) (w : World) :
    Calls Try.prog 4 #[.int .i64 n] w fun e w' => e = .returned (.bool true) ∧ Below w.heap.size w w' := by
  have hx : -9223372036854775808 ≤ n ∧ n ≤ 9223372036854775807 := by simpa [Lit.wf, IntKind.min, IntKind.max, IntKind.signed, IntKind.bits] using wf
  obtain ⟨h1, h2⟩ := hx
  go_enter Try.func4, Try.ntmps4
  go_wp2_with (first | (go_at_call 16; refine (fmt.spec_any n h1 h2 _).mono ?_; rintro e w1 ⟨rfl, hb1⟩) | (go_at_call 12; refine (fmt.impl_any n h1 h2 _).mono ?_; rintro e w2 ⟨rfl, hb2⟩))
  go_ret
  exact ⟨rfl, hb1.trans (hb2.mono hb1.size)⟩
end Go.Proofs.Ythlmjkajgpbkdaa.fnExactFormatInt
