/-
  CONTRACTS OF THE LAWS' OWN FUNCTIONS ON []string.
-/
import Derived.Test.YtphlbelnhmoblaaSplit
import Derived.Test.YtphlbelnhmoblaaDec
import Derived.Deep.RegionHeld3
import Derived.Deep.QuietTactic
import Derived.BigQuiet
namespace Go.Proofs.Ytphlbelnhmoblaa.strl
open Go.ChangeShapes Go.WideShapes Go.ChangeAt Go.RowKit
open mem dec split

theorem ssv_get (P : List (List UInt8)) (k : Nat) (h : k < P.length) : (ssv P).getD k undef = .string (bstr (P.getD k [])) := by
  simp [ssv, List.getD, List.getElem?_map, List.getElem?_eq_getElem h]

theorem take_get (P : List (List UInt8)) (k : Nat) (h : k < P.length) : P.take (k + 1) = P.take k ++ [P.getD k []] := by
  rw [List.take_succ_eq_append_getElem h]; simp [List.getD, List.getElem?_eq_getElem h]
theorem keep_call {wr w0 w1 : World} {p : Addr} {x : Value} (h : w0.cell? p = some x ∧ Below wr.heap.size wr w0) (hp : p.block < wr.heap.size) (hb : Below w0.heap.size w0 w1) :
    w1.cell? p = some x ∧ Below wr.heap.size wr w1 :=
  ⟨(hb.cell (by have := h.2.size; omega)).trans h.1, h.2.trans (hb.mono h.2.size)⟩

/-- the marks k, k + 1, .. -/
def marks (k n : Nat) : List (List UInt8) := (List.range n).map fun i => 109 :: dig (k + i)
theorem marks_len (k n : Nat) : (marks k n).length = n := by simp [marks]
theorem marks_get (k n i : Nat) (h : i < n) : (marks k n).getD i [] = 109 :: dig (k + i) := by
  simp [marks, List.getD, h]

end Go.Proofs.Ytphlbelnhmoblaa.strl
