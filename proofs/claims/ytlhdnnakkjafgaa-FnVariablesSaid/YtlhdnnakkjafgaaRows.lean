/-
  NARROWER THAN 'FOR EVERY INPUT', by the rows' own cells (each row's printed sentence says how): FnExactSizeOfTerm: loops · FnExactDepthOfTerm: loops · FnExactCompareTerms: loops · FnExactVariablesOf: loops · FnExactIsGround: loops · FnExactOccursIn: loops · FnExactSortTerms: loops.
  DERIVED. THE GIVEN ROWS OF THIS SEAT. 9 by the template 'for every input the law returns true; each argument reads behind the call as it read before'; 0 by the template 'total and deterministic' (their statements: YtlhdnnakkjafgaaTotals.lean).
  GIVEN WITH THE SEED: the statements are not yours to turn. If you find one false, say at which input.
  Laid BY PROGRAM, IN A SANDBOX (cutbox-rows.mjs): the forced cells as the released guide's own fill.sh prints them over the translation b92879b62a766260… (all of the seat's roots in one cut). By AI agents, Wed Nov 11 2026. No macro, syntax, notation, axiom, sorry.
-/
import Derived.Test.YtlhdnnakkjafgaaChecked
import GoSem.Claim
import GoSem.ClaimJoined
import GoSem.ClaimMapViews
import Derived.JoinedTies
import Derived.KernelRfl
namespace Go.Proofs.Ytlhdnnakkjafgaa
/- THE CELL 'sum', in the pinned program and in every row, IS THE sha256 OF THE DUMP (.gsa) THAT YtlhdnnakkjafgaaProg.lean LOADS. Nothing in Lean hashes anything: it is a label: what it is worth is what the hold of that sum in a sandbox is worth. -/
noncomputable def Try.pinned : Pinned := { name := "ytlhdnnakkjafgaa", sum := "b92879b62a766260a5a58fbb0cea769a0a42936cfc5765a4c834437605192cef", checked := Try.checked }
namespace Rows
def none {H : Type} : Left H := { results := [], args := [] }

/-- 'laws.FnTermOrder': WHATEVER THE INPUT: true; the input reads as it did. -/
def fnTermOrderSpec : ChangeSpec := { name := "fnTermOrder", fn := fun _ => fun
  | [d] => { results := [.lit (.bool true)], args := [d] }
  | _ => none }
def fnTermOrderRow : OpenClaim := { program := "ytlhdnnakkjafgaa", sum := "b92879b62a766260a5a58fbb0cea769a0a42936cfc5765a4c834437605192cef", func := "loop.example/g03107/laws.FnTermOrder", spec := "fnTermOrder", unfollowed := true, recurses := true, apart := false }
def FnTermOrderSaid : Prop := fnTermOrderRow.holds Try.pinned (OpenSpec.ofChange fnTermOrderSpec)

/-- ITS FALSE NEIGHBOUR: 'it returns false'. Refute it at one input. -/
def fnTermOrderWrong : ChangeSpec := { name := "fnTermOrder", fn := fun _ => fun
  | [d] => { results := [.lit (.bool false)], args := [d] }
  | _ => none }
def FnTermOrderWrongFalsely : Prop := fnTermOrderRow.holds Try.pinned (OpenSpec.ofChange fnTermOrderWrong)

/-- 'laws.FnVariables': WHATEVER THE INPUT: true; the input reads as it did. -/
def fnVariablesSpec : ChangeSpec := { name := "fnVariables", fn := fun _ => fun
  | [d] => { results := [.lit (.bool true)], args := [d] }
  | _ => none }
def fnVariablesRow : OpenClaim := { program := "ytlhdnnakkjafgaa", sum := "b92879b62a766260a5a58fbb0cea769a0a42936cfc5765a4c834437605192cef", func := "loop.example/g03107/laws.FnVariables", spec := "fnVariables", unfollowed := true, recurses := true, apart := false }
def FnVariablesSaid : Prop := fnVariablesRow.holds Try.pinned (OpenSpec.ofChange fnVariablesSpec)

/-- ITS FALSE NEIGHBOUR: 'it returns false'. Refute it at one input. -/
def fnVariablesWrong : ChangeSpec := { name := "fnVariables", fn := fun _ => fun
  | [d] => { results := [.lit (.bool false)], args := [d] }
  | _ => none }
def FnVariablesWrongFalsely : Prop := fnVariablesRow.holds Try.pinned (OpenSpec.ofChange fnVariablesWrong)

/-- 'laws.FnExactSizeOfTerm': WHATEVER THE INPUT: true; the input reads as it did. -/
def fnExactSizeOfTermSpec : ChangeSpec := { name := "fnExactSizeOfTerm", fn := fun _ => fun
  | [d] => { results := [.lit (.bool true)], args := [d] }
  | _ => none }
def fnExactSizeOfTermRow : OpenClaim := { program := "ytlhdnnakkjafgaa", sum := "b92879b62a766260a5a58fbb0cea769a0a42936cfc5765a4c834437605192cef", func := "loop.example/g03107/laws.FnExactSizeOfTerm", spec := "fnExactSizeOfTerm", unfollowed := true, recurses := true, loops := true, apart := false }
def FnExactSizeOfTermSaid : Prop := fnExactSizeOfTermRow.holds Try.pinned (OpenSpec.ofChange fnExactSizeOfTermSpec)

/-- ITS FALSE NEIGHBOUR: 'it returns false'. Refute it at one input. -/
def fnExactSizeOfTermWrong : ChangeSpec := { name := "fnExactSizeOfTerm", fn := fun _ => fun
  | [d] => { results := [.lit (.bool false)], args := [d] }
  | _ => none }
def FnExactSizeOfTermWrongFalsely : Prop := fnExactSizeOfTermRow.holds Try.pinned (OpenSpec.ofChange fnExactSizeOfTermWrong)

/-- 'laws.FnExactDepthOfTerm': WHATEVER THE INPUT: true; the input reads as it did. -/
def fnExactDepthOfTermSpec : ChangeSpec := { name := "fnExactDepthOfTerm", fn := fun _ => fun
  | [d] => { results := [.lit (.bool true)], args := [d] }
  | _ => none }
def fnExactDepthOfTermRow : OpenClaim := { program := "ytlhdnnakkjafgaa", sum := "b92879b62a766260a5a58fbb0cea769a0a42936cfc5765a4c834437605192cef", func := "loop.example/g03107/laws.FnExactDepthOfTerm", spec := "fnExactDepthOfTerm", unfollowed := true, recurses := true, loops := true, apart := false }
def FnExactDepthOfTermSaid : Prop := fnExactDepthOfTermRow.holds Try.pinned (OpenSpec.ofChange fnExactDepthOfTermSpec)

/-- ITS FALSE NEIGHBOUR: 'it returns false'. Refute it at one input. -/
def fnExactDepthOfTermWrong : ChangeSpec := { name := "fnExactDepthOfTerm", fn := fun _ => fun
  | [d] => { results := [.lit (.bool false)], args := [d] }
  | _ => none }
def FnExactDepthOfTermWrongFalsely : Prop := fnExactDepthOfTermRow.holds Try.pinned (OpenSpec.ofChange fnExactDepthOfTermWrong)

/-- 'laws.FnExactCompareTerms': WHATEVER THE INPUT: true; the input reads as it did. -/
def fnExactCompareTermsSpec : ChangeSpec := { name := "fnExactCompareTerms", fn := fun _ => fun
  | [d1, d2] => { results := [.lit (.bool true)], args := [d1, d2] }
  | _ => none }
def fnExactCompareTermsRow : OpenClaim := { program := "ytlhdnnakkjafgaa", sum := "b92879b62a766260a5a58fbb0cea769a0a42936cfc5765a4c834437605192cef", func := "loop.example/g03107/laws.FnExactCompareTerms", spec := "fnExactCompareTerms", recurses := true, loops := true, apart := false }
def FnExactCompareTermsSaid : Prop := fnExactCompareTermsRow.holds Try.pinned (OpenSpec.ofChange fnExactCompareTermsSpec)

/-- ITS FALSE NEIGHBOUR: 'it returns false'. Refute it at one input. -/
def fnExactCompareTermsWrong : ChangeSpec := { name := "fnExactCompareTerms", fn := fun _ => fun
  | [d1, d2] => { results := [.lit (.bool false)], args := [d1, d2] }
  | _ => none }
def FnExactCompareTermsWrongFalsely : Prop := fnExactCompareTermsRow.holds Try.pinned (OpenSpec.ofChange fnExactCompareTermsWrong)

/-- 'laws.FnExactVariablesOf': WHATEVER THE INPUT: true; the input reads as it did. -/
def fnExactVariablesOfSpec : ChangeSpec := { name := "fnExactVariablesOf", fn := fun _ => fun
  | [d] => { results := [.lit (.bool true)], args := [d] }
  | _ => none }
def fnExactVariablesOfRow : OpenClaim := { program := "ytlhdnnakkjafgaa", sum := "b92879b62a766260a5a58fbb0cea769a0a42936cfc5765a4c834437605192cef", func := "loop.example/g03107/laws.FnExactVariablesOf", spec := "fnExactVariablesOf", unfollowed := true, recurses := true, loops := true, apart := false }
def FnExactVariablesOfSaid : Prop := fnExactVariablesOfRow.holds Try.pinned (OpenSpec.ofChange fnExactVariablesOfSpec)

/-- ITS FALSE NEIGHBOUR: 'it returns false'. Refute it at one input. -/
def fnExactVariablesOfWrong : ChangeSpec := { name := "fnExactVariablesOf", fn := fun _ => fun
  | [d] => { results := [.lit (.bool false)], args := [d] }
  | _ => none }
def FnExactVariablesOfWrongFalsely : Prop := fnExactVariablesOfRow.holds Try.pinned (OpenSpec.ofChange fnExactVariablesOfWrong)

/-- 'laws.FnExactIsGround': WHATEVER THE INPUT: true; the input reads as it did. -/
def fnExactIsGroundSpec : ChangeSpec := { name := "fnExactIsGround", fn := fun _ => fun
  | [d] => { results := [.lit (.bool true)], args := [d] }
  | _ => none }
def fnExactIsGroundRow : OpenClaim := { program := "ytlhdnnakkjafgaa", sum := "b92879b62a766260a5a58fbb0cea769a0a42936cfc5765a4c834437605192cef", func := "loop.example/g03107/laws.FnExactIsGround", spec := "fnExactIsGround", unfollowed := true, recurses := true, loops := true, apart := false }
def FnExactIsGroundSaid : Prop := fnExactIsGroundRow.holds Try.pinned (OpenSpec.ofChange fnExactIsGroundSpec)

/-- ITS FALSE NEIGHBOUR: 'it returns false'. Refute it at one input. -/
def fnExactIsGroundWrong : ChangeSpec := { name := "fnExactIsGround", fn := fun _ => fun
  | [d] => { results := [.lit (.bool false)], args := [d] }
  | _ => none }
def FnExactIsGroundWrongFalsely : Prop := fnExactIsGroundRow.holds Try.pinned (OpenSpec.ofChange fnExactIsGroundWrong)

/-- 'laws.FnExactOccursIn': WHATEVER THE INPUT: true; the input reads as it did. -/
def fnExactOccursInSpec : ChangeSpec := { name := "fnExactOccursIn", fn := fun _ => fun
  | [d1, d2] => { results := [.lit (.bool true)], args := [d1, d2] }
  | _ => none }
def fnExactOccursInRow : OpenClaim := { program := "ytlhdnnakkjafgaa", sum := "b92879b62a766260a5a58fbb0cea769a0a42936cfc5765a4c834437605192cef", func := "loop.example/g03107/laws.FnExactOccursIn", spec := "fnExactOccursIn", unfollowed := true, recurses := true, loops := true, apart := false }
def FnExactOccursInSaid : Prop := fnExactOccursInRow.holds Try.pinned (OpenSpec.ofChange fnExactOccursInSpec)

/-- ITS FALSE NEIGHBOUR: 'it returns false'. Refute it at one input. -/
def fnExactOccursInWrong : ChangeSpec := { name := "fnExactOccursIn", fn := fun _ => fun
  | [d1, d2] => { results := [.lit (.bool false)], args := [d1, d2] }
  | _ => none }
def FnExactOccursInWrongFalsely : Prop := fnExactOccursInRow.holds Try.pinned (OpenSpec.ofChange fnExactOccursInWrong)

/-- 'laws.FnExactSortTerms': WHATEVER THE INPUT: true; the input reads as it did. -/
def fnExactSortTermsSpec : ChangeSpec := { name := "fnExactSortTerms", fn := fun _ => fun
  | [d] => { results := [.lit (.bool true)], args := [d] }
  | _ => none }
def fnExactSortTermsRow : OpenClaim := { program := "ytlhdnnakkjafgaa", sum := "b92879b62a766260a5a58fbb0cea769a0a42936cfc5765a4c834437605192cef", func := "loop.example/g03107/laws.FnExactSortTerms", spec := "fnExactSortTerms", unfollowed := true, recurses := true, loops := true, apart := false }
def FnExactSortTermsSaid : Prop := fnExactSortTermsRow.holds Try.pinned (OpenSpec.ofChange fnExactSortTermsSpec)

/-- ITS FALSE NEIGHBOUR: 'it returns false'. Refute it at one input. -/
def fnExactSortTermsWrong : ChangeSpec := { name := "fnExactSortTerms", fn := fun _ => fun
  | [d] => { results := [.lit (.bool false)], args := [d] }
  | _ => none }
def FnExactSortTermsWrongFalsely : Prop := fnExactSortTermsRow.holds Try.pinned (OpenSpec.ofChange fnExactSortTermsWrong)

/- THE SECOND FORM. 'bulk': how many values and letters a reading holds, each counted each time it is reached (what is shared counts as often as it is met; a slice's spare places count too). A statement '..UptoSaid' is the law's where the arguments, and the package variables that the reading takes, are together of bulk at most 1048576: NARROWER than '..Said'. Prove '..Said' where nothing that the law and all that it calls make is longer than what came in: it says more and counts as full. Else prove '..UptoSaid'. A law counts once. -/
mutual
def uptoBulk {H : Type} : DataW H → Nat
  | .lit (.string bytes) => bytes.length + 1
  | .lit _ => 1
  | .nil => 1
  | .ptr d => uptoBulk d + 1
  | .slice elems spare => uptoBulkAll elems + uptoBulkAll spare + 1
  | .agg parts => uptoBulkAll parts + 1
  | .iface _ d => uptoBulk d + 1
  | .map entries => uptoBulkEntries entries + 1
  | .held _ => 1
def uptoBulkAll {H : Type} : List (DataW H) → Nat
  | [] => 0
  | d :: r => uptoBulk d + uptoBulkAll r
def uptoBulkEntries {H : Type} : List (Lit × DataW H) → Nat
  | [] => 0
  | x :: r => uptoBulkEntry x + uptoBulkEntries r
def uptoBulkEntry {H : Type} : Lit × DataW H → Nat
  | (.string bytes, d) => bytes.length + uptoBulk d + 1
  | (_, d) => uptoBulk d + 1
 end
def uptoSmall : (H : Type) → List (DataW H) → Bool := fun _ ds => decide (uptoBulkAll ds ≤ 1048576)
def OpenSpec.upto (s : _root_.Go.ChangeSpec) : _root_.Go.OpenSpec := { _root_.Go.OpenSpec.ofChange s with cond := some uptoSmall }

/-- 'laws.FnTermOrder', WHERE WHAT IT READS IS OF BULK AT MOST 1048576: true; the input reads as it did. -/
def fnTermOrderUptoRow : OpenClaim := { program := "ytlhdnnakkjafgaa", sum := "b92879b62a766260a5a58fbb0cea769a0a42936cfc5765a4c834437605192cef", func := "loop.example/g03107/laws.FnTermOrder", spec := "fnTermOrder", unfollowed := true, recurses := true, apart := false, narrowed := true }
def FnTermOrderUptoSaid : Prop := fnTermOrderUptoRow.holds Try.pinned (OpenSpec.upto fnTermOrderSpec)

/-- 'laws.FnVariables', WHERE WHAT IT READS IS OF BULK AT MOST 1048576: true; the input reads as it did. -/
def fnVariablesUptoRow : OpenClaim := { program := "ytlhdnnakkjafgaa", sum := "b92879b62a766260a5a58fbb0cea769a0a42936cfc5765a4c834437605192cef", func := "loop.example/g03107/laws.FnVariables", spec := "fnVariables", unfollowed := true, recurses := true, apart := false, narrowed := true }
def FnVariablesUptoSaid : Prop := fnVariablesUptoRow.holds Try.pinned (OpenSpec.upto fnVariablesSpec)

/-- 'laws.FnExactSizeOfTerm', WHERE WHAT IT READS IS OF BULK AT MOST 1048576: true; the input reads as it did. -/
def fnExactSizeOfTermUptoRow : OpenClaim := { program := "ytlhdnnakkjafgaa", sum := "b92879b62a766260a5a58fbb0cea769a0a42936cfc5765a4c834437605192cef", func := "loop.example/g03107/laws.FnExactSizeOfTerm", spec := "fnExactSizeOfTerm", unfollowed := true, recurses := true, loops := true, apart := false, narrowed := true }
def FnExactSizeOfTermUptoSaid : Prop := fnExactSizeOfTermUptoRow.holds Try.pinned (OpenSpec.upto fnExactSizeOfTermSpec)

/-- 'laws.FnExactDepthOfTerm', WHERE WHAT IT READS IS OF BULK AT MOST 1048576: true; the input reads as it did. -/
def fnExactDepthOfTermUptoRow : OpenClaim := { program := "ytlhdnnakkjafgaa", sum := "b92879b62a766260a5a58fbb0cea769a0a42936cfc5765a4c834437605192cef", func := "loop.example/g03107/laws.FnExactDepthOfTerm", spec := "fnExactDepthOfTerm", unfollowed := true, recurses := true, loops := true, apart := false, narrowed := true }
def FnExactDepthOfTermUptoSaid : Prop := fnExactDepthOfTermUptoRow.holds Try.pinned (OpenSpec.upto fnExactDepthOfTermSpec)

/-- 'laws.FnExactCompareTerms', WHERE WHAT IT READS IS OF BULK AT MOST 1048576: true; the input reads as it did. -/
def fnExactCompareTermsUptoRow : OpenClaim := { program := "ytlhdnnakkjafgaa", sum := "b92879b62a766260a5a58fbb0cea769a0a42936cfc5765a4c834437605192cef", func := "loop.example/g03107/laws.FnExactCompareTerms", spec := "fnExactCompareTerms", recurses := true, loops := true, apart := false, narrowed := true }
def FnExactCompareTermsUptoSaid : Prop := fnExactCompareTermsUptoRow.holds Try.pinned (OpenSpec.upto fnExactCompareTermsSpec)

/-- 'laws.FnExactVariablesOf', WHERE WHAT IT READS IS OF BULK AT MOST 1048576: true; the input reads as it did. -/
def fnExactVariablesOfUptoRow : OpenClaim := { program := "ytlhdnnakkjafgaa", sum := "b92879b62a766260a5a58fbb0cea769a0a42936cfc5765a4c834437605192cef", func := "loop.example/g03107/laws.FnExactVariablesOf", spec := "fnExactVariablesOf", unfollowed := true, recurses := true, loops := true, apart := false, narrowed := true }
def FnExactVariablesOfUptoSaid : Prop := fnExactVariablesOfUptoRow.holds Try.pinned (OpenSpec.upto fnExactVariablesOfSpec)

/-- 'laws.FnExactIsGround', WHERE WHAT IT READS IS OF BULK AT MOST 1048576: true; the input reads as it did. -/
def fnExactIsGroundUptoRow : OpenClaim := { program := "ytlhdnnakkjafgaa", sum := "b92879b62a766260a5a58fbb0cea769a0a42936cfc5765a4c834437605192cef", func := "loop.example/g03107/laws.FnExactIsGround", spec := "fnExactIsGround", unfollowed := true, recurses := true, loops := true, apart := false, narrowed := true }
def FnExactIsGroundUptoSaid : Prop := fnExactIsGroundUptoRow.holds Try.pinned (OpenSpec.upto fnExactIsGroundSpec)

/-- 'laws.FnExactOccursIn', WHERE WHAT IT READS IS OF BULK AT MOST 1048576: true; the input reads as it did. -/
def fnExactOccursInUptoRow : OpenClaim := { program := "ytlhdnnakkjafgaa", sum := "b92879b62a766260a5a58fbb0cea769a0a42936cfc5765a4c834437605192cef", func := "loop.example/g03107/laws.FnExactOccursIn", spec := "fnExactOccursIn", unfollowed := true, recurses := true, loops := true, apart := false, narrowed := true }
def FnExactOccursInUptoSaid : Prop := fnExactOccursInUptoRow.holds Try.pinned (OpenSpec.upto fnExactOccursInSpec)

/-- 'laws.FnExactSortTerms', WHERE WHAT IT READS IS OF BULK AT MOST 1048576: true; the input reads as it did. -/
def fnExactSortTermsUptoRow : OpenClaim := { program := "ytlhdnnakkjafgaa", sum := "b92879b62a766260a5a58fbb0cea769a0a42936cfc5765a4c834437605192cef", func := "loop.example/g03107/laws.FnExactSortTerms", spec := "fnExactSortTerms", unfollowed := true, recurses := true, loops := true, apart := false, narrowed := true }
def FnExactSortTermsUptoSaid : Prop := fnExactSortTermsUptoRow.holds Try.pinned (OpenSpec.upto fnExactSortTermsSpec)

end Rows
end Go.Proofs.Ytlhdnnakkjafgaa
