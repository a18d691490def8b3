/-
  No cell of these rows narrows 'for every input' (looked for: loops, veiled, ifaces, maps, wideKeys, modest, calm, conditions, laid).
  DERIVED. THE GIVEN ROWS OF THIS SEAT. 10 by the template 'for every input the law returns true; each argument reads behind the call as it read before'; 0 by the template 'total and deterministic' (their statements: YtfkagidkaolllaaTotals.lean).
  GIVEN WITH THE SEED: the statements are not yours to turn. If you find one false, say at which input.
  Laid BY PROGRAM, IN A SANDBOX (cutbox-rows.mjs): the forced cells as the released guide's own fill.sh prints them over the translation 799a33ab42bf8e99… (all of the seat's roots in one cut). By AI agents, Wed Nov 11 2026. No macro, syntax, notation, axiom, sorry.
-/
import Derived.Test.YtfkagidkaolllaaChecked
import GoSem.Claim
import GoSem.ClaimJoined
import GoSem.ClaimMapViews
import Derived.JoinedTies
import Derived.KernelRfl
namespace Go.Proofs.Ytfkagidkaolllaa
/- THE CELL 'sum', in the pinned program and in every row, IS THE sha256 OF THE DUMP (.gsa) THAT YtfkagidkaolllaaProg.lean LOADS. Nothing in Lean hashes anything: it is a label: what it is worth is what the hold of that sum in a sandbox is worth. -/
noncomputable def Try.pinned : Pinned := { name := "ytfkagidkaolllaa", sum := "799a33ab42bf8e99b0a81c8ec3da6b8f23ae52cd3a027945cbd01e1b1d6ce481", checked := Try.checked }
namespace Rows
def none {H : Type} : Left H := { results := [], args := [] }

/-- 'laws.FnExactAboveSort': WHATEVER THE INPUT: true; the input reads as it did. -/
def fnExactAboveSortSpec : ChangeSpec := { name := "fnExactAboveSort", fn := fun _ => fun
  | [d1, d2] => { results := [.lit (.bool true)], args := [d1, d2] }
  | _ => none }
def fnExactAboveSortRow : OpenClaim := { program := "ytfkagidkaolllaa", sum := "799a33ab42bf8e99b0a81c8ec3da6b8f23ae52cd3a027945cbd01e1b1d6ce481", func := "loop.example/g03107/laws.FnExactAboveSort", spec := "fnExactAboveSort", apart := false }
def FnExactAboveSortSaid : Prop := fnExactAboveSortRow.holds Try.pinned (OpenSpec.ofChange fnExactAboveSortSpec)

/-- ITS FALSE NEIGHBOUR: 'it returns false'. Refute it at one input. -/
def fnExactAboveSortWrong : ChangeSpec := { name := "fnExactAboveSort", fn := fun _ => fun
  | [d1, d2] => { results := [.lit (.bool false)], args := [d1, d2] }
  | _ => none }
def FnExactAboveSortWrongFalsely : Prop := fnExactAboveSortRow.holds Try.pinned (OpenSpec.ofChange fnExactAboveSortWrong)

/-- 'laws.FnExactBelowSort': WHATEVER THE INPUT: true; the input reads as it did. -/
def fnExactBelowSortSpec : ChangeSpec := { name := "fnExactBelowSort", fn := fun _ => fun
  | [d1, d2] => { results := [.lit (.bool true)], args := [d1, d2] }
  | _ => none }
def fnExactBelowSortRow : OpenClaim := { program := "ytfkagidkaolllaa", sum := "799a33ab42bf8e99b0a81c8ec3da6b8f23ae52cd3a027945cbd01e1b1d6ce481", func := "loop.example/g03107/laws.FnExactBelowSort", spec := "fnExactBelowSort", apart := false }
def FnExactBelowSortSaid : Prop := fnExactBelowSortRow.holds Try.pinned (OpenSpec.ofChange fnExactBelowSortSpec)

/-- ITS FALSE NEIGHBOUR: 'it returns false'. Refute it at one input. -/
def fnExactBelowSortWrong : ChangeSpec := { name := "fnExactBelowSort", fn := fun _ => fun
  | [d1, d2] => { results := [.lit (.bool false)], args := [d1, d2] }
  | _ => none }
def FnExactBelowSortWrongFalsely : Prop := fnExactBelowSortRow.holds Try.pinned (OpenSpec.ofChange fnExactBelowSortWrong)

/-- 'laws.FnExactCommonSorts': WHATEVER THE INPUT: true; the input reads as it did. -/
def fnExactCommonSortsSpec : ChangeSpec := { name := "fnExactCommonSorts", fn := fun _ => fun
  | [d1, d2, d3] => { results := [.lit (.bool true)], args := [d1, d2, d3] }
  | _ => none }
def fnExactCommonSortsRow : OpenClaim := { program := "ytfkagidkaolllaa", sum := "799a33ab42bf8e99b0a81c8ec3da6b8f23ae52cd3a027945cbd01e1b1d6ce481", func := "loop.example/g03107/laws.FnExactCommonSorts", spec := "fnExactCommonSorts", apart := false }
def FnExactCommonSortsSaid : Prop := fnExactCommonSortsRow.holds Try.pinned (OpenSpec.ofChange fnExactCommonSortsSpec)

/-- ITS FALSE NEIGHBOUR: 'it returns false'. Refute it at one input. -/
def fnExactCommonSortsWrong : ChangeSpec := { name := "fnExactCommonSorts", fn := fun _ => fun
  | [d1, d2, d3] => { results := [.lit (.bool false)], args := [d1, d2, d3] }
  | _ => none }
def FnExactCommonSortsWrongFalsely : Prop := fnExactCommonSortsRow.holds Try.pinned (OpenSpec.ofChange fnExactCommonSortsWrong)

/-- 'laws.FnExactGreatestSorts': WHATEVER THE INPUT: true; the input reads as it did. -/
def fnExactGreatestSortsSpec : ChangeSpec := { name := "fnExactGreatestSorts", fn := fun _ => fun
  | [d1, d2] => { results := [.lit (.bool true)], args := [d1, d2] }
  | _ => none }
def fnExactGreatestSortsRow : OpenClaim := { program := "ytfkagidkaolllaa", sum := "799a33ab42bf8e99b0a81c8ec3da6b8f23ae52cd3a027945cbd01e1b1d6ce481", func := "loop.example/g03107/laws.FnExactGreatestSorts", spec := "fnExactGreatestSorts", apart := false }
def FnExactGreatestSortsSaid : Prop := fnExactGreatestSortsRow.holds Try.pinned (OpenSpec.ofChange fnExactGreatestSortsSpec)

/-- ITS FALSE NEIGHBOUR: 'it returns false'. Refute it at one input. -/
def fnExactGreatestSortsWrong : ChangeSpec := { name := "fnExactGreatestSorts", fn := fun _ => fun
  | [d1, d2] => { results := [.lit (.bool false)], args := [d1, d2] }
  | _ => none }
def FnExactGreatestSortsWrongFalsely : Prop := fnExactGreatestSortsRow.holds Try.pinned (OpenSpec.ofChange fnExactGreatestSortsWrong)

/-- 'laws.FnExactIsName': WHATEVER THE INPUT: true; the input reads as it did. -/
def fnExactIsNameSpec : ChangeSpec := { name := "fnExactIsName", fn := fun _ => fun
  | [d] => { results := [.lit (.bool true)], args := [d] }
  | _ => none }
def fnExactIsNameRow : OpenClaim := { program := "ytfkagidkaolllaa", sum := "799a33ab42bf8e99b0a81c8ec3da6b8f23ae52cd3a027945cbd01e1b1d6ce481", func := "loop.example/g03107/laws.FnExactIsName", spec := "fnExactIsName", apart := false }
def FnExactIsNameSaid : Prop := fnExactIsNameRow.holds Try.pinned (OpenSpec.ofChange fnExactIsNameSpec)

/-- ITS FALSE NEIGHBOUR: 'it returns false'. Refute it at one input. -/
def fnExactIsNameWrong : ChangeSpec := { name := "fnExactIsName", fn := fun _ => fun
  | [d] => { results := [.lit (.bool false)], args := [d] }
  | _ => none }
def FnExactIsNameWrongFalsely : Prop := fnExactIsNameRow.holds Try.pinned (OpenSpec.ofChange fnExactIsNameWrong)

/-- 'laws.FnExactIsSorts': WHATEVER THE INPUT: true; the input reads as it did. -/
def fnExactIsSortsSpec : ChangeSpec := { name := "fnExactIsSorts", fn := fun _ => fun
  | [d] => { results := [.lit (.bool true)], args := [d] }
  | _ => none }
def fnExactIsSortsRow : OpenClaim := { program := "ytfkagidkaolllaa", sum := "799a33ab42bf8e99b0a81c8ec3da6b8f23ae52cd3a027945cbd01e1b1d6ce481", func := "loop.example/g03107/laws.FnExactIsSorts", spec := "fnExactIsSorts", apart := false }
def FnExactIsSortsSaid : Prop := fnExactIsSortsRow.holds Try.pinned (OpenSpec.ofChange fnExactIsSortsSpec)

/-- ITS FALSE NEIGHBOUR: 'it returns false'. Refute it at one input. -/
def fnExactIsSortsWrong : ChangeSpec := { name := "fnExactIsSorts", fn := fun _ => fun
  | [d] => { results := [.lit (.bool false)], args := [d] }
  | _ => none }
def FnExactIsSortsWrongFalsely : Prop := fnExactIsSortsRow.holds Try.pinned (OpenSpec.ofChange fnExactIsSortsWrong)

/-- 'laws.FnExactKindOfSort': WHATEVER THE INPUT: true; the input reads as it did. -/
def fnExactKindOfSortSpec : ChangeSpec := { name := "fnExactKindOfSort", fn := fun _ => fun
  | [d1, d2] => { results := [.lit (.bool true)], args := [d1, d2] }
  | _ => none }
def fnExactKindOfSortRow : OpenClaim := { program := "ytfkagidkaolllaa", sum := "799a33ab42bf8e99b0a81c8ec3da6b8f23ae52cd3a027945cbd01e1b1d6ce481", func := "loop.example/g03107/laws.FnExactKindOfSort", spec := "fnExactKindOfSort", apart := false }
def FnExactKindOfSortSaid : Prop := fnExactKindOfSortRow.holds Try.pinned (OpenSpec.ofChange fnExactKindOfSortSpec)

/-- ITS FALSE NEIGHBOUR: 'it returns false'. Refute it at one input. -/
def fnExactKindOfSortWrong : ChangeSpec := { name := "fnExactKindOfSort", fn := fun _ => fun
  | [d1, d2] => { results := [.lit (.bool false)], args := [d1, d2] }
  | _ => none }
def FnExactKindOfSortWrongFalsely : Prop := fnExactKindOfSortRow.holds Try.pinned (OpenSpec.ofChange fnExactKindOfSortWrong)

/-- 'laws.FnExactLeastSorts': WHATEVER THE INPUT: true; the input reads as it did. -/
def fnExactLeastSortsSpec : ChangeSpec := { name := "fnExactLeastSorts", fn := fun _ => fun
  | [d1, d2] => { results := [.lit (.bool true)], args := [d1, d2] }
  | _ => none }
def fnExactLeastSortsRow : OpenClaim := { program := "ytfkagidkaolllaa", sum := "799a33ab42bf8e99b0a81c8ec3da6b8f23ae52cd3a027945cbd01e1b1d6ce481", func := "loop.example/g03107/laws.FnExactLeastSorts", spec := "fnExactLeastSorts", apart := false }
def FnExactLeastSortsSaid : Prop := fnExactLeastSortsRow.holds Try.pinned (OpenSpec.ofChange fnExactLeastSortsSpec)

/-- ITS FALSE NEIGHBOUR: 'it returns false'. Refute it at one input. -/
def fnExactLeastSortsWrong : ChangeSpec := { name := "fnExactLeastSorts", fn := fun _ => fun
  | [d1, d2] => { results := [.lit (.bool false)], args := [d1, d2] }
  | _ => none }
def FnExactLeastSortsWrongFalsely : Prop := fnExactLeastSortsRow.holds Try.pinned (OpenSpec.ofChange fnExactLeastSortsWrong)

/-- 'laws.FnLeastSorts': WHATEVER THE INPUT: true; the input reads as it did. -/
def fnLeastSortsSpec : ChangeSpec := { name := "fnLeastSorts", fn := fun _ => fun
  | [d] => { results := [.lit (.bool true)], args := [d] }
  | _ => none }
def fnLeastSortsRow : OpenClaim := { program := "ytfkagidkaolllaa", sum := "799a33ab42bf8e99b0a81c8ec3da6b8f23ae52cd3a027945cbd01e1b1d6ce481", func := "loop.example/g03107/laws.FnLeastSorts", spec := "fnLeastSorts", apart := false }
def FnLeastSortsSaid : Prop := fnLeastSortsRow.holds Try.pinned (OpenSpec.ofChange fnLeastSortsSpec)

/-- ITS FALSE NEIGHBOUR: 'it returns false'. Refute it at one input. -/
def fnLeastSortsWrong : ChangeSpec := { name := "fnLeastSorts", fn := fun _ => fun
  | [d] => { results := [.lit (.bool false)], args := [d] }
  | _ => none }
def FnLeastSortsWrongFalsely : Prop := fnLeastSortsRow.holds Try.pinned (OpenSpec.ofChange fnLeastSortsWrong)

/-- 'laws.FnSortOrder': WHATEVER THE INPUT: true; the input reads as it did. -/
def fnSortOrderSpec : ChangeSpec := { name := "fnSortOrder", fn := fun _ => fun
  | [d] => { results := [.lit (.bool true)], args := [d] }
  | _ => none }
def fnSortOrderRow : OpenClaim := { program := "ytfkagidkaolllaa", sum := "799a33ab42bf8e99b0a81c8ec3da6b8f23ae52cd3a027945cbd01e1b1d6ce481", func := "loop.example/g03107/laws.FnSortOrder", spec := "fnSortOrder", apart := false }
def FnSortOrderSaid : Prop := fnSortOrderRow.holds Try.pinned (OpenSpec.ofChange fnSortOrderSpec)

/-- ITS FALSE NEIGHBOUR: 'it returns false'. Refute it at one input. -/
def fnSortOrderWrong : ChangeSpec := { name := "fnSortOrder", fn := fun _ => fun
  | [d] => { results := [.lit (.bool false)], args := [d] }
  | _ => none }
def FnSortOrderWrongFalsely : Prop := fnSortOrderRow.holds Try.pinned (OpenSpec.ofChange fnSortOrderWrong)

/- THE SECOND FORM. 'bulk': how many values and letters a reading holds, each counted each time it is reached (what is shared counts as often as it is met; a slice's spare places count too). A statement '..UptoSaid' is the law's where the arguments, and the package variables that the reading takes, are together of bulk at most 1048576: NARROWER than '..Said'. Prove '..Said' where nothing that the law and all that it calls make is longer than what came in: it says more and counts as full. Else prove '..UptoSaid'. A law counts once. -/
mutual
def uptoBulk {H : Type} : DataW H → Nat
  | .lit (.string bytes) => bytes.length + 1
  | .lit _ => 1
  | .nil => 1
  | .ptr d => uptoBulk d + 1
  | .slice elems spare => uptoBulkAll elems + uptoBulkAll spare + 1
  | .agg parts => uptoBulkAll parts + 1
  | .iface _ d => uptoBulk d + 1
  | .map entries => uptoBulkEntries entries + 1
  | .held _ => 1
def uptoBulkAll {H : Type} : List (DataW H) → Nat
  | [] => 0
  | d :: r => uptoBulk d + uptoBulkAll r
def uptoBulkEntries {H : Type} : List (Lit × DataW H) → Nat
  | [] => 0
  | x :: r => uptoBulkEntry x + uptoBulkEntries r
def uptoBulkEntry {H : Type} : Lit × DataW H → Nat
  | (.string bytes, d) => bytes.length + uptoBulk d + 1
  | (_, d) => uptoBulk d + 1
 end
def uptoSmall : (H : Type) → List (DataW H) → Bool := fun _ ds => decide (uptoBulkAll ds ≤ 1048576)
def OpenSpec.upto (s : _root_.Go.ChangeSpec) : _root_.Go.OpenSpec := { _root_.Go.OpenSpec.ofChange s with cond := some uptoSmall }

/-- 'laws.FnExactAboveSort', WHERE WHAT IT READS IS OF BULK AT MOST 1048576: true; the input reads as it did. -/
def fnExactAboveSortUptoRow : OpenClaim := { program := "ytfkagidkaolllaa", sum := "799a33ab42bf8e99b0a81c8ec3da6b8f23ae52cd3a027945cbd01e1b1d6ce481", func := "loop.example/g03107/laws.FnExactAboveSort", spec := "fnExactAboveSort", apart := false, narrowed := true }
def FnExactAboveSortUptoSaid : Prop := fnExactAboveSortUptoRow.holds Try.pinned (OpenSpec.upto fnExactAboveSortSpec)

/-- 'laws.FnExactBelowSort', WHERE WHAT IT READS IS OF BULK AT MOST 1048576: true; the input reads as it did. -/
def fnExactBelowSortUptoRow : OpenClaim := { program := "ytfkagidkaolllaa", sum := "799a33ab42bf8e99b0a81c8ec3da6b8f23ae52cd3a027945cbd01e1b1d6ce481", func := "loop.example/g03107/laws.FnExactBelowSort", spec := "fnExactBelowSort", apart := false, narrowed := true }
def FnExactBelowSortUptoSaid : Prop := fnExactBelowSortUptoRow.holds Try.pinned (OpenSpec.upto fnExactBelowSortSpec)

/-- 'laws.FnExactCommonSorts', WHERE WHAT IT READS IS OF BULK AT MOST 1048576: true; the input reads as it did. -/
def fnExactCommonSortsUptoRow : OpenClaim := { program := "ytfkagidkaolllaa", sum := "799a33ab42bf8e99b0a81c8ec3da6b8f23ae52cd3a027945cbd01e1b1d6ce481", func := "loop.example/g03107/laws.FnExactCommonSorts", spec := "fnExactCommonSorts", apart := false, narrowed := true }
def FnExactCommonSortsUptoSaid : Prop := fnExactCommonSortsUptoRow.holds Try.pinned (OpenSpec.upto fnExactCommonSortsSpec)

/-- 'laws.FnExactGreatestSorts', WHERE WHAT IT READS IS OF BULK AT MOST 1048576: true; the input reads as it did. -/
def fnExactGreatestSortsUptoRow : OpenClaim := { program := "ytfkagidkaolllaa", sum := "799a33ab42bf8e99b0a81c8ec3da6b8f23ae52cd3a027945cbd01e1b1d6ce481", func := "loop.example/g03107/laws.FnExactGreatestSorts", spec := "fnExactGreatestSorts", apart := false, narrowed := true }
def FnExactGreatestSortsUptoSaid : Prop := fnExactGreatestSortsUptoRow.holds Try.pinned (OpenSpec.upto fnExactGreatestSortsSpec)

/-- 'laws.FnExactIsName', WHERE WHAT IT READS IS OF BULK AT MOST 1048576: true; the input reads as it did. -/
def fnExactIsNameUptoRow : OpenClaim := { program := "ytfkagidkaolllaa", sum := "799a33ab42bf8e99b0a81c8ec3da6b8f23ae52cd3a027945cbd01e1b1d6ce481", func := "loop.example/g03107/laws.FnExactIsName", spec := "fnExactIsName", apart := false, narrowed := true }
def FnExactIsNameUptoSaid : Prop := fnExactIsNameUptoRow.holds Try.pinned (OpenSpec.upto fnExactIsNameSpec)

/-- 'laws.FnExactIsSorts', WHERE WHAT IT READS IS OF BULK AT MOST 1048576: true; the input reads as it did. -/
def fnExactIsSortsUptoRow : OpenClaim := { program := "ytfkagidkaolllaa", sum := "799a33ab42bf8e99b0a81c8ec3da6b8f23ae52cd3a027945cbd01e1b1d6ce481", func := "loop.example/g03107/laws.FnExactIsSorts", spec := "fnExactIsSorts", apart := false, narrowed := true }
def FnExactIsSortsUptoSaid : Prop := fnExactIsSortsUptoRow.holds Try.pinned (OpenSpec.upto fnExactIsSortsSpec)

/-- 'laws.FnExactKindOfSort', WHERE WHAT IT READS IS OF BULK AT MOST 1048576: true; the input reads as it did. -/
def fnExactKindOfSortUptoRow : OpenClaim := { program := "ytfkagidkaolllaa", sum := "799a33ab42bf8e99b0a81c8ec3da6b8f23ae52cd3a027945cbd01e1b1d6ce481", func := "loop.example/g03107/laws.FnExactKindOfSort", spec := "fnExactKindOfSort", apart := false, narrowed := true }
def FnExactKindOfSortUptoSaid : Prop := fnExactKindOfSortUptoRow.holds Try.pinned (OpenSpec.upto fnExactKindOfSortSpec)

/-- 'laws.FnExactLeastSorts', WHERE WHAT IT READS IS OF BULK AT MOST 1048576: true; the input reads as it did. -/
def fnExactLeastSortsUptoRow : OpenClaim := { program := "ytfkagidkaolllaa", sum := "799a33ab42bf8e99b0a81c8ec3da6b8f23ae52cd3a027945cbd01e1b1d6ce481", func := "loop.example/g03107/laws.FnExactLeastSorts", spec := "fnExactLeastSorts", apart := false, narrowed := true }
def FnExactLeastSortsUptoSaid : Prop := fnExactLeastSortsUptoRow.holds Try.pinned (OpenSpec.upto fnExactLeastSortsSpec)

/-- 'laws.FnLeastSorts', WHERE WHAT IT READS IS OF BULK AT MOST 1048576: true; the input reads as it did. -/
def fnLeastSortsUptoRow : OpenClaim := { program := "ytfkagidkaolllaa", sum := "799a33ab42bf8e99b0a81c8ec3da6b8f23ae52cd3a027945cbd01e1b1d6ce481", func := "loop.example/g03107/laws.FnLeastSorts", spec := "fnLeastSorts", apart := false, narrowed := true }
def FnLeastSortsUptoSaid : Prop := fnLeastSortsUptoRow.holds Try.pinned (OpenSpec.upto fnLeastSortsSpec)

/-- 'laws.FnSortOrder', WHERE WHAT IT READS IS OF BULK AT MOST 1048576: true; the input reads as it did. -/
def fnSortOrderUptoRow : OpenClaim := { program := "ytfkagidkaolllaa", sum := "799a33ab42bf8e99b0a81c8ec3da6b8f23ae52cd3a027945cbd01e1b1d6ce481", func := "loop.example/g03107/laws.FnSortOrder", spec := "fnSortOrder", apart := false, narrowed := true }
def FnSortOrderUptoSaid : Prop := fnSortOrderUptoRow.holds Try.pinned (OpenSpec.upto fnSortOrderSpec)

end Rows
end Go.Proofs.Ytfkagidkaolllaa
