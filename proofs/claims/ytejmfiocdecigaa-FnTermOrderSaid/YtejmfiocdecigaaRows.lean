/-
  NARROWER THAN 'FOR EVERY INPUT', by the rows' own cells (each row's printed sentence says how): FnExactVariablesOf: loops · FnExactSortTerms: loops.
  DERIVED. THE GIVEN ROWS OF THIS SEAT. 5 by the template 'for every input the law returns true; each argument reads behind the call as it read before'; 0 by the template 'total and deterministic' (their statements: YtejmfiocdecigaaTotals.lean).
  GIVEN WITH THE SEED: the statements are not yours to turn. If you find one false, say at which input.
  Laid BY PROGRAM, IN A SANDBOX (cutbox-rows.mjs): the forced cells as the released guide's own fill.sh prints them over the translation 132ef82b0a67c7f7… (all of the seat's roots in one cut). By AI agents, Wed Nov 11 2026. No macro, syntax, notation, axiom, sorry.
-/
import Derived.Test.YtejmfiocdecigaaChecked
import GoSem.Claim
import GoSem.ClaimJoined
import GoSem.ClaimMapViews
import Derived.JoinedTies
import Derived.KernelRfl
namespace Go.Proofs.Ytejmfiocdecigaa
/- THE CELL 'sum', in the pinned program and in every row, IS THE sha256 OF THE DUMP (.gsa) THAT YtejmfiocdecigaaProg.lean LOADS. Nothing in Lean hashes anything: it is a label: what it is worth is what the hold of that sum in a sandbox is worth. -/
noncomputable def Try.pinned : Pinned := { name := "ytejmfiocdecigaa", sum := "132ef82b0a67c7f7ad61bfef3328a0375647c543aa822bb4256f27c759cd0bfe", checked := Try.checked }
namespace Rows
def none {H : Type} : Left H := { results := [], args := [] }

/-- 'laws.FnTermOrder': WHATEVER THE INPUT: true; the input reads as it did. -/
def fnTermOrderSpec : ChangeSpec := { name := "fnTermOrder", fn := fun _ => fun
  | [d] => { results := [.lit (.bool true)], args := [d] }
  | _ => none }
def fnTermOrderRow : OpenClaim := { program := "ytejmfiocdecigaa", sum := "132ef82b0a67c7f7ad61bfef3328a0375647c543aa822bb4256f27c759cd0bfe", func := "loop.example/g03107/laws.FnTermOrder", spec := "fnTermOrder", unfollowed := true, recurses := true, apart := false }
def FnTermOrderSaid : Prop := fnTermOrderRow.holds Try.pinned (OpenSpec.ofChange fnTermOrderSpec)

/-- ITS FALSE NEIGHBOUR: 'it returns false'. Refute it at one input. -/
def fnTermOrderWrong : ChangeSpec := { name := "fnTermOrder", fn := fun _ => fun
  | [d] => { results := [.lit (.bool false)], args := [d] }
  | _ => none }
def FnTermOrderWrongFalsely : Prop := fnTermOrderRow.holds Try.pinned (OpenSpec.ofChange fnTermOrderWrong)

/-- 'laws.FnVariables': WHATEVER THE INPUT: true; the input reads as it did. -/
def fnVariablesSpec : ChangeSpec := { name := "fnVariables", fn := fun _ => fun
  | [d] => { results := [.lit (.bool true)], args := [d] }
  | _ => none }
def fnVariablesRow : OpenClaim := { program := "ytejmfiocdecigaa", sum := "132ef82b0a67c7f7ad61bfef3328a0375647c543aa822bb4256f27c759cd0bfe", func := "loop.example/g03107/laws.FnVariables", spec := "fnVariables", unfollowed := true, recurses := true, apart := false }
def FnVariablesSaid : Prop := fnVariablesRow.holds Try.pinned (OpenSpec.ofChange fnVariablesSpec)

/-- ITS FALSE NEIGHBOUR: 'it returns false'. Refute it at one input. -/
def fnVariablesWrong : ChangeSpec := { name := "fnVariables", fn := fun _ => fun
  | [d] => { results := [.lit (.bool false)], args := [d] }
  | _ => none }
def FnVariablesWrongFalsely : Prop := fnVariablesRow.holds Try.pinned (OpenSpec.ofChange fnVariablesWrong)

/-- 'laws.FnExactIsSignature': WHATEVER THE INPUT: true; the input reads as it did. -/
def fnExactIsSignatureSpec : ChangeSpec := { name := "fnExactIsSignature", fn := fun _ => fun
  | [d] => { results := [.lit (.bool true)], args := [d] }
  | _ => none }
def fnExactIsSignatureRow : OpenClaim := { program := "ytejmfiocdecigaa", sum := "132ef82b0a67c7f7ad61bfef3328a0375647c543aa822bb4256f27c759cd0bfe", func := "loop.example/g03107/laws.FnExactIsSignature", spec := "fnExactIsSignature", apart := false }
def FnExactIsSignatureSaid : Prop := fnExactIsSignatureRow.holds Try.pinned (OpenSpec.ofChange fnExactIsSignatureSpec)

/-- ITS FALSE NEIGHBOUR: 'it returns false'. Refute it at one input. -/
def fnExactIsSignatureWrong : ChangeSpec := { name := "fnExactIsSignature", fn := fun _ => fun
  | [d] => { results := [.lit (.bool false)], args := [d] }
  | _ => none }
def FnExactIsSignatureWrongFalsely : Prop := fnExactIsSignatureRow.holds Try.pinned (OpenSpec.ofChange fnExactIsSignatureWrong)

/-- 'laws.FnExactVariablesOf': WHATEVER THE INPUT: true; the input reads as it did. -/
def fnExactVariablesOfSpec : ChangeSpec := { name := "fnExactVariablesOf", fn := fun _ => fun
  | [d] => { results := [.lit (.bool true)], args := [d] }
  | _ => none }
def fnExactVariablesOfRow : OpenClaim := { program := "ytejmfiocdecigaa", sum := "132ef82b0a67c7f7ad61bfef3328a0375647c543aa822bb4256f27c759cd0bfe", func := "loop.example/g03107/laws.FnExactVariablesOf", spec := "fnExactVariablesOf", unfollowed := true, recurses := true, loops := true, apart := false }
def FnExactVariablesOfSaid : Prop := fnExactVariablesOfRow.holds Try.pinned (OpenSpec.ofChange fnExactVariablesOfSpec)

/-- ITS FALSE NEIGHBOUR: 'it returns false'. Refute it at one input. -/
def fnExactVariablesOfWrong : ChangeSpec := { name := "fnExactVariablesOf", fn := fun _ => fun
  | [d] => { results := [.lit (.bool false)], args := [d] }
  | _ => none }
def FnExactVariablesOfWrongFalsely : Prop := fnExactVariablesOfRow.holds Try.pinned (OpenSpec.ofChange fnExactVariablesOfWrong)

/-- 'laws.FnExactSortTerms': WHATEVER THE INPUT: true; the input reads as it did. -/
def fnExactSortTermsSpec : ChangeSpec := { name := "fnExactSortTerms", fn := fun _ => fun
  | [d] => { results := [.lit (.bool true)], args := [d] }
  | _ => none }
def fnExactSortTermsRow : OpenClaim := { program := "ytejmfiocdecigaa", sum := "132ef82b0a67c7f7ad61bfef3328a0375647c543aa822bb4256f27c759cd0bfe", func := "loop.example/g03107/laws.FnExactSortTerms", spec := "fnExactSortTerms", unfollowed := true, recurses := true, loops := true, apart := false }
def FnExactSortTermsSaid : Prop := fnExactSortTermsRow.holds Try.pinned (OpenSpec.ofChange fnExactSortTermsSpec)

/-- ITS FALSE NEIGHBOUR: 'it returns false'. Refute it at one input. -/
def fnExactSortTermsWrong : ChangeSpec := { name := "fnExactSortTerms", fn := fun _ => fun
  | [d] => { results := [.lit (.bool false)], args := [d] }
  | _ => none }
def FnExactSortTermsWrongFalsely : Prop := fnExactSortTermsRow.holds Try.pinned (OpenSpec.ofChange fnExactSortTermsWrong)

/- THE SECOND FORM. 'bulk': how many values and letters a reading holds, each counted each time it is reached (what is shared counts as often as it is met; a slice's spare places count too). A statement '..UptoSaid' is the law's where the arguments, and the package variables that the reading takes, are together of bulk at most 1048576: NARROWER than '..Said'. Prove '..Said' where nothing that the law and all that it calls make is longer than what came in: it says more and counts as full. Else prove '..UptoSaid'. A law counts once. -/
mutual
def uptoBulk {H : Type} : DataW H → Nat
  | .lit (.string bytes) => bytes.length + 1
  | .lit _ => 1
  | .nil => 1
  | .ptr d => uptoBulk d + 1
  | .slice elems spare => uptoBulkAll elems + uptoBulkAll spare + 1
  | .agg parts => uptoBulkAll parts + 1
  | .iface _ d => uptoBulk d + 1
  | .map entries => uptoBulkEntries entries + 1
  | .held _ => 1
def uptoBulkAll {H : Type} : List (DataW H) → Nat
  | [] => 0
  | d :: r => uptoBulk d + uptoBulkAll r
def uptoBulkEntries {H : Type} : List (Lit × DataW H) → Nat
  | [] => 0
  | x :: r => uptoBulkEntry x + uptoBulkEntries r
def uptoBulkEntry {H : Type} : Lit × DataW H → Nat
  | (.string bytes, d) => bytes.length + uptoBulk d + 1
  | (_, d) => uptoBulk d + 1
 end
def uptoSmall : (H : Type) → List (DataW H) → Bool := fun _ ds => decide (uptoBulkAll ds ≤ 1048576)
def OpenSpec.upto (s : _root_.Go.ChangeSpec) : _root_.Go.OpenSpec := { _root_.Go.OpenSpec.ofChange s with cond := some uptoSmall }

/-- 'laws.FnTermOrder', WHERE WHAT IT READS IS OF BULK AT MOST 1048576: true; the input reads as it did. -/
def fnTermOrderUptoRow : OpenClaim := { program := "ytejmfiocdecigaa", sum := "132ef82b0a67c7f7ad61bfef3328a0375647c543aa822bb4256f27c759cd0bfe", func := "loop.example/g03107/laws.FnTermOrder", spec := "fnTermOrder", unfollowed := true, recurses := true, apart := false, narrowed := true }
def FnTermOrderUptoSaid : Prop := fnTermOrderUptoRow.holds Try.pinned (OpenSpec.upto fnTermOrderSpec)

/-- 'laws.FnVariables', WHERE WHAT IT READS IS OF BULK AT MOST 1048576: true; the input reads as it did. -/
def fnVariablesUptoRow : OpenClaim := { program := "ytejmfiocdecigaa", sum := "132ef82b0a67c7f7ad61bfef3328a0375647c543aa822bb4256f27c759cd0bfe", func := "loop.example/g03107/laws.FnVariables", spec := "fnVariables", unfollowed := true, recurses := true, apart := false, narrowed := true }
def FnVariablesUptoSaid : Prop := fnVariablesUptoRow.holds Try.pinned (OpenSpec.upto fnVariablesSpec)

/-- 'laws.FnExactIsSignature', WHERE WHAT IT READS IS OF BULK AT MOST 1048576: true; the input reads as it did. -/
def fnExactIsSignatureUptoRow : OpenClaim := { program := "ytejmfiocdecigaa", sum := "132ef82b0a67c7f7ad61bfef3328a0375647c543aa822bb4256f27c759cd0bfe", func := "loop.example/g03107/laws.FnExactIsSignature", spec := "fnExactIsSignature", apart := false, narrowed := true }
def FnExactIsSignatureUptoSaid : Prop := fnExactIsSignatureUptoRow.holds Try.pinned (OpenSpec.upto fnExactIsSignatureSpec)

/-- 'laws.FnExactVariablesOf', WHERE WHAT IT READS IS OF BULK AT MOST 1048576: true; the input reads as it did. -/
def fnExactVariablesOfUptoRow : OpenClaim := { program := "ytejmfiocdecigaa", sum := "132ef82b0a67c7f7ad61bfef3328a0375647c543aa822bb4256f27c759cd0bfe", func := "loop.example/g03107/laws.FnExactVariablesOf", spec := "fnExactVariablesOf", unfollowed := true, recurses := true, loops := true, apart := false, narrowed := true }
def FnExactVariablesOfUptoSaid : Prop := fnExactVariablesOfUptoRow.holds Try.pinned (OpenSpec.upto fnExactVariablesOfSpec)

/-- 'laws.FnExactSortTerms', WHERE WHAT IT READS IS OF BULK AT MOST 1048576: true; the input reads as it did. -/
def fnExactSortTermsUptoRow : OpenClaim := { program := "ytejmfiocdecigaa", sum := "132ef82b0a67c7f7ad61bfef3328a0375647c543aa822bb4256f27c759cd0bfe", func := "loop.example/g03107/laws.FnExactSortTerms", spec := "fnExactSortTerms", unfollowed := true, recurses := true, loops := true, apart := false, narrowed := true }
def FnExactSortTermsUptoSaid : Prop := fnExactSortTermsUptoRow.holds Try.pinned (OpenSpec.upto fnExactSortTermsSpec)

end Rows
end Go.Proofs.Ytejmfiocdecigaa
