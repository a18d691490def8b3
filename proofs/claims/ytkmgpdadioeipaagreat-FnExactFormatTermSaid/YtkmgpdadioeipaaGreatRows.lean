/-
  NARROWER THAN 'FOR EVERY INPUT', by the rows' own cells (each row's printed sentence says how): FnExactMakeTerm: loops · FnExactCanonicalTerm: loops · FnExactEqualModulo: loops · FnExactFormatTerm: loops.
  DERIVED. THE GIVEN ROWS OF THIS SEAT. 7 by the template 'for every input the law returns true; each argument reads behind the call as it read before'; 0 by the template 'total and deterministic' (their statements: YtkmgpdadioeipaaGreatTotals.lean).
  GIVEN WITH THE SEED: the statements are not yours to turn. If you find one false, say at which input.
  Laid BY PROGRAM, IN A SANDBOX (cutbox-rows.mjs): the forced cells as the released guide's own fill.sh prints them over the translation 883d21931d05b614… (all of the seat's roots in one cut). By AI agents, Wed Nov 11 2026. No macro, syntax, notation, axiom, sorry.
-/
import Derived.Test.YtkmgpdadioeipaaGreatChecked
import GoSem.Claim
import GoSem.ClaimJoined
import GoSem.ClaimMapViews
import Derived.JoinedTies
import Derived.KernelRfl
namespace Go.Proofs.YtkmgpdadioeipaaGreat
/- THE CELL 'sum', in the pinned program and in every row, IS THE sha256 OF THE DUMP (.gsa) THAT YtkmgpdadioeipaaGreatProg.lean LOADS. Nothing in Lean hashes anything: it is a label: what it is worth is what the hold of that sum in a sandbox is worth. -/
noncomputable def Tryz.pinned : Pinned := { name := "ytkmgpdadioeipaagreat", sum := "883d21931d05b6141029031f9683bec32a625ce5b8342deda3f27e1a3bd0f1bc", checked := Tryz.checked }
namespace Rows
def none {H : Type} : Left H := { results := [], args := [] }

/-- 'laws.FnCanonical': WHATEVER THE INPUT: true; the input reads as it did. -/
def fnCanonicalSpec : ChangeSpec := { name := "fnCanonical", fn := fun _ => fun
  | [d] => { results := [.lit (.bool true)], args := [d] }
  | _ => none }
def fnCanonicalRow : OpenClaim := { program := "ytkmgpdadioeipaagreat", sum := "883d21931d05b6141029031f9683bec32a625ce5b8342deda3f27e1a3bd0f1bc", func := "loop.example/g03107/laws.FnCanonical", spec := "fnCanonical", unfollowed := true, recurses := true, apart := false }
def FnCanonicalSaid : Prop := fnCanonicalRow.holds Tryz.pinned (OpenSpec.ofChange fnCanonicalSpec)

/-- ITS FALSE NEIGHBOUR: 'it returns false'. Refute it at one input. -/
def fnCanonicalWrong : ChangeSpec := { name := "fnCanonical", fn := fun _ => fun
  | [d] => { results := [.lit (.bool false)], args := [d] }
  | _ => none }
def FnCanonicalWrongFalsely : Prop := fnCanonicalRow.holds Tryz.pinned (OpenSpec.ofChange fnCanonicalWrong)

/-- 'laws.FnArrangements': WHATEVER THE INPUT: true; the input reads as it did. -/
def fnArrangementsSpec : ChangeSpec := { name := "fnArrangements", fn := fun _ => fun
  | [d] => { results := [.lit (.bool true)], args := [d] }
  | _ => none }
def fnArrangementsRow : OpenClaim := { program := "ytkmgpdadioeipaagreat", sum := "883d21931d05b6141029031f9683bec32a625ce5b8342deda3f27e1a3bd0f1bc", func := "loop.example/g03107/laws.FnArrangements", spec := "fnArrangements", unfollowed := true, recurses := true, apart := false }
def FnArrangementsSaid : Prop := fnArrangementsRow.holds Tryz.pinned (OpenSpec.ofChange fnArrangementsSpec)

/-- ITS FALSE NEIGHBOUR: 'it returns false'. Refute it at one input. -/
def fnArrangementsWrong : ChangeSpec := { name := "fnArrangements", fn := fun _ => fun
  | [d] => { results := [.lit (.bool false)], args := [d] }
  | _ => none }
def FnArrangementsWrongFalsely : Prop := fnArrangementsRow.holds Tryz.pinned (OpenSpec.ofChange fnArrangementsWrong)

/-- 'laws.FnLeastSort': WHATEVER THE INPUT: true; the input reads as it did. -/
def fnLeastSortSpec : ChangeSpec := { name := "fnLeastSort", fn := fun _ => fun
  | [d] => { results := [.lit (.bool true)], args := [d] }
  | _ => none }
def fnLeastSortRow : OpenClaim := { program := "ytkmgpdadioeipaagreat", sum := "883d21931d05b6141029031f9683bec32a625ce5b8342deda3f27e1a3bd0f1bc", func := "loop.example/g03107/laws.FnLeastSort", spec := "fnLeastSort", unfollowed := true, recurses := true, apart := false }
def FnLeastSortSaid : Prop := fnLeastSortRow.holds Tryz.pinned (OpenSpec.ofChange fnLeastSortSpec)

/-- ITS FALSE NEIGHBOUR: 'it returns false'. Refute it at one input. -/
def fnLeastSortWrong : ChangeSpec := { name := "fnLeastSort", fn := fun _ => fun
  | [d] => { results := [.lit (.bool false)], args := [d] }
  | _ => none }
def FnLeastSortWrongFalsely : Prop := fnLeastSortRow.holds Tryz.pinned (OpenSpec.ofChange fnLeastSortWrong)

/-- 'laws.FnExactMakeTerm': WHATEVER THE INPUT: true; the input reads as it did. -/
def fnExactMakeTermSpec : ChangeSpec := { name := "fnExactMakeTerm", fn := fun _ => fun
  | [d1, d2, d3] => { results := [.lit (.bool true)], args := [d1, d2, d3] }
  | _ => none }
def fnExactMakeTermRow : OpenClaim := { program := "ytkmgpdadioeipaagreat", sum := "883d21931d05b6141029031f9683bec32a625ce5b8342deda3f27e1a3bd0f1bc", func := "loop.example/g03107/laws.FnExactMakeTerm", spec := "fnExactMakeTerm", unfollowed := true, recurses := true, loops := true, apart := false }
def FnExactMakeTermSaid : Prop := fnExactMakeTermRow.holds Tryz.pinned (OpenSpec.ofChange fnExactMakeTermSpec)

/-- ITS FALSE NEIGHBOUR: 'it returns false'. Refute it at one input. -/
def fnExactMakeTermWrong : ChangeSpec := { name := "fnExactMakeTerm", fn := fun _ => fun
  | [d1, d2, d3] => { results := [.lit (.bool false)], args := [d1, d2, d3] }
  | _ => none }
def FnExactMakeTermWrongFalsely : Prop := fnExactMakeTermRow.holds Tryz.pinned (OpenSpec.ofChange fnExactMakeTermWrong)

/-- 'laws.FnExactCanonicalTerm': WHATEVER THE INPUT: true; the input reads as it did. -/
def fnExactCanonicalTermSpec : ChangeSpec := { name := "fnExactCanonicalTerm", fn := fun _ => fun
  | [d1, d2] => { results := [.lit (.bool true)], args := [d1, d2] }
  | _ => none }
def fnExactCanonicalTermRow : OpenClaim := { program := "ytkmgpdadioeipaagreat", sum := "883d21931d05b6141029031f9683bec32a625ce5b8342deda3f27e1a3bd0f1bc", func := "loop.example/g03107/laws.FnExactCanonicalTerm", spec := "fnExactCanonicalTerm", unfollowed := true, recurses := true, loops := true, apart := false }
def FnExactCanonicalTermSaid : Prop := fnExactCanonicalTermRow.holds Tryz.pinned (OpenSpec.ofChange fnExactCanonicalTermSpec)

/-- ITS FALSE NEIGHBOUR: 'it returns false'. Refute it at one input. -/
def fnExactCanonicalTermWrong : ChangeSpec := { name := "fnExactCanonicalTerm", fn := fun _ => fun
  | [d1, d2] => { results := [.lit (.bool false)], args := [d1, d2] }
  | _ => none }
def FnExactCanonicalTermWrongFalsely : Prop := fnExactCanonicalTermRow.holds Tryz.pinned (OpenSpec.ofChange fnExactCanonicalTermWrong)

/-- 'laws.FnExactEqualModulo': WHATEVER THE INPUT: true; the input reads as it did. -/
def fnExactEqualModuloSpec : ChangeSpec := { name := "fnExactEqualModulo", fn := fun _ => fun
  | [d1, d2, d3] => { results := [.lit (.bool true)], args := [d1, d2, d3] }
  | _ => none }
def fnExactEqualModuloRow : OpenClaim := { program := "ytkmgpdadioeipaagreat", sum := "883d21931d05b6141029031f9683bec32a625ce5b8342deda3f27e1a3bd0f1bc", func := "loop.example/g03107/laws.FnExactEqualModulo", spec := "fnExactEqualModulo", unfollowed := true, recurses := true, loops := true, apart := false }
def FnExactEqualModuloSaid : Prop := fnExactEqualModuloRow.holds Tryz.pinned (OpenSpec.ofChange fnExactEqualModuloSpec)

/-- ITS FALSE NEIGHBOUR: 'it returns false'. Refute it at one input. -/
def fnExactEqualModuloWrong : ChangeSpec := { name := "fnExactEqualModulo", fn := fun _ => fun
  | [d1, d2, d3] => { results := [.lit (.bool false)], args := [d1, d2, d3] }
  | _ => none }
def FnExactEqualModuloWrongFalsely : Prop := fnExactEqualModuloRow.holds Tryz.pinned (OpenSpec.ofChange fnExactEqualModuloWrong)

/-- 'laws.FnExactFormatTerm': WHATEVER THE INPUT: true; the input reads as it did. -/
def fnExactFormatTermSpec : ChangeSpec := { name := "fnExactFormatTerm", fn := fun _ => fun
  | [d1, d2] => { results := [.lit (.bool true)], args := [d1, d2] }
  | _ => none }
def fnExactFormatTermRow : OpenClaim := { program := "ytkmgpdadioeipaagreat", sum := "883d21931d05b6141029031f9683bec32a625ce5b8342deda3f27e1a3bd0f1bc", func := "loop.example/g03107/laws.FnExactFormatTerm", spec := "fnExactFormatTerm", unfollowed := true, recurses := true, loops := true, apart := false }
def FnExactFormatTermSaid : Prop := fnExactFormatTermRow.holds Tryz.pinned (OpenSpec.ofChange fnExactFormatTermSpec)

/-- ITS FALSE NEIGHBOUR: 'it returns false'. Refute it at one input. -/
def fnExactFormatTermWrong : ChangeSpec := { name := "fnExactFormatTerm", fn := fun _ => fun
  | [d1, d2] => { results := [.lit (.bool false)], args := [d1, d2] }
  | _ => none }
def FnExactFormatTermWrongFalsely : Prop := fnExactFormatTermRow.holds Tryz.pinned (OpenSpec.ofChange fnExactFormatTermWrong)

/- THE SECOND FORM. 'bulk': how many values and letters a reading holds, each counted each time it is reached (what is shared counts as often as it is met; a slice's spare places count too). A statement '..UptoSaid' is the law's where the arguments, and the package variables that the reading takes, are together of bulk at most 1048576: NARROWER than '..Said'. Prove '..Said' where nothing that the law and all that it calls make is longer than what came in: it says more and counts as full. Else prove '..UptoSaid'. A law counts once. -/
mutual
def uptoBulk {H : Type} : DataW H → Nat
  | .lit (.string bytes) => bytes.length + 1
  | .lit _ => 1
  | .nil => 1
  | .ptr d => uptoBulk d + 1
  | .slice elems spare => uptoBulkAll elems + uptoBulkAll spare + 1
  | .agg parts => uptoBulkAll parts + 1
  | .iface _ d => uptoBulk d + 1
  | .map entries => uptoBulkEntries entries + 1
  | .held _ => 1
def uptoBulkAll {H : Type} : List (DataW H) → Nat
  | [] => 0
  | d :: r => uptoBulk d + uptoBulkAll r
def uptoBulkEntries {H : Type} : List (Lit × DataW H) → Nat
  | [] => 0
  | x :: r => uptoBulkEntry x + uptoBulkEntries r
def uptoBulkEntry {H : Type} : Lit × DataW H → Nat
  | (.string bytes, d) => bytes.length + uptoBulk d + 1
  | (_, d) => uptoBulk d + 1
 end
def uptoSmall : (H : Type) → List (DataW H) → Bool := fun _ ds => decide (uptoBulkAll ds ≤ 1048576)
def OpenSpec.upto (s : _root_.Go.ChangeSpec) : _root_.Go.OpenSpec := { _root_.Go.OpenSpec.ofChange s with cond := some uptoSmall }

/-- 'laws.FnCanonical', WHERE WHAT IT READS IS OF BULK AT MOST 1048576: true; the input reads as it did. -/
def fnCanonicalUptoRow : OpenClaim := { program := "ytkmgpdadioeipaagreat", sum := "883d21931d05b6141029031f9683bec32a625ce5b8342deda3f27e1a3bd0f1bc", func := "loop.example/g03107/laws.FnCanonical", spec := "fnCanonical", unfollowed := true, recurses := true, apart := false, narrowed := true }
def FnCanonicalUptoSaid : Prop := fnCanonicalUptoRow.holds Tryz.pinned (OpenSpec.upto fnCanonicalSpec)

/-- 'laws.FnArrangements', WHERE WHAT IT READS IS OF BULK AT MOST 1048576: true; the input reads as it did. -/
def fnArrangementsUptoRow : OpenClaim := { program := "ytkmgpdadioeipaagreat", sum := "883d21931d05b6141029031f9683bec32a625ce5b8342deda3f27e1a3bd0f1bc", func := "loop.example/g03107/laws.FnArrangements", spec := "fnArrangements", unfollowed := true, recurses := true, apart := false, narrowed := true }
def FnArrangementsUptoSaid : Prop := fnArrangementsUptoRow.holds Tryz.pinned (OpenSpec.upto fnArrangementsSpec)

/-- 'laws.FnLeastSort', WHERE WHAT IT READS IS OF BULK AT MOST 1048576: true; the input reads as it did. -/
def fnLeastSortUptoRow : OpenClaim := { program := "ytkmgpdadioeipaagreat", sum := "883d21931d05b6141029031f9683bec32a625ce5b8342deda3f27e1a3bd0f1bc", func := "loop.example/g03107/laws.FnLeastSort", spec := "fnLeastSort", unfollowed := true, recurses := true, apart := false, narrowed := true }
def FnLeastSortUptoSaid : Prop := fnLeastSortUptoRow.holds Tryz.pinned (OpenSpec.upto fnLeastSortSpec)

/-- 'laws.FnExactMakeTerm', WHERE WHAT IT READS IS OF BULK AT MOST 1048576: true; the input reads as it did. -/
def fnExactMakeTermUptoRow : OpenClaim := { program := "ytkmgpdadioeipaagreat", sum := "883d21931d05b6141029031f9683bec32a625ce5b8342deda3f27e1a3bd0f1bc", func := "loop.example/g03107/laws.FnExactMakeTerm", spec := "fnExactMakeTerm", unfollowed := true, recurses := true, loops := true, apart := false, narrowed := true }
def FnExactMakeTermUptoSaid : Prop := fnExactMakeTermUptoRow.holds Tryz.pinned (OpenSpec.upto fnExactMakeTermSpec)

/-- 'laws.FnExactCanonicalTerm', WHERE WHAT IT READS IS OF BULK AT MOST 1048576: true; the input reads as it did. -/
def fnExactCanonicalTermUptoRow : OpenClaim := { program := "ytkmgpdadioeipaagreat", sum := "883d21931d05b6141029031f9683bec32a625ce5b8342deda3f27e1a3bd0f1bc", func := "loop.example/g03107/laws.FnExactCanonicalTerm", spec := "fnExactCanonicalTerm", unfollowed := true, recurses := true, loops := true, apart := false, narrowed := true }
def FnExactCanonicalTermUptoSaid : Prop := fnExactCanonicalTermUptoRow.holds Tryz.pinned (OpenSpec.upto fnExactCanonicalTermSpec)

/-- 'laws.FnExactEqualModulo', WHERE WHAT IT READS IS OF BULK AT MOST 1048576: true; the input reads as it did. -/
def fnExactEqualModuloUptoRow : OpenClaim := { program := "ytkmgpdadioeipaagreat", sum := "883d21931d05b6141029031f9683bec32a625ce5b8342deda3f27e1a3bd0f1bc", func := "loop.example/g03107/laws.FnExactEqualModulo", spec := "fnExactEqualModulo", unfollowed := true, recurses := true, loops := true, apart := false, narrowed := true }
def FnExactEqualModuloUptoSaid : Prop := fnExactEqualModuloUptoRow.holds Tryz.pinned (OpenSpec.upto fnExactEqualModuloSpec)

/-- 'laws.FnExactFormatTerm', WHERE WHAT IT READS IS OF BULK AT MOST 1048576: true; the input reads as it did. -/
def fnExactFormatTermUptoRow : OpenClaim := { program := "ytkmgpdadioeipaagreat", sum := "883d21931d05b6141029031f9683bec32a625ce5b8342deda3f27e1a3bd0f1bc", func := "loop.example/g03107/laws.FnExactFormatTerm", spec := "fnExactFormatTerm", unfollowed := true, recurses := true, loops := true, apart := false, narrowed := true }
def FnExactFormatTermUptoSaid : Prop := fnExactFormatTermUptoRow.holds Tryz.pinned (OpenSpec.upto fnExactFormatTermSpec)

end Rows
end Go.Proofs.YtkmgpdadioeipaaGreat
