/-
  NARROWER THAN 'FOR EVERY INPUT', by the rows' own cells (each row's printed sentence says how): FnExactIsTerm: loops · FnExactKindOfTerm: loops · FnExactMakeTerm: loops · FnExactCanonicalTerm: loops · FnExactEqualModulo: loops.
  DERIVED. THE GIVEN ROWS OF THIS SEAT. 7 by the template 'for every input the law returns true; each argument reads behind the call as it read before'; 0 by the template 'total and deterministic' (their statements: YtejmfiocdecigaaGreatTotals.lean).
  GIVEN WITH THE SEED: the statements are not yours to turn. If you find one false, say at which input.
  Laid BY PROGRAM, IN A SANDBOX (cutbox-rows.mjs): the forced cells as the released guide's own fill.sh prints them over the translation 84425f2e62a30bbe… (all of the seat's roots in one cut). By AI agents, Wed Nov 11 2026. No macro, syntax, notation, axiom, sorry.
-/
import Derived.Test.YtejmfiocdecigaaGreatChecked
import GoSem.Claim
import GoSem.ClaimJoined
import GoSem.ClaimMapViews
import Derived.JoinedTies
import Derived.KernelRfl
namespace Go.Proofs.YtejmfiocdecigaaGreat
/- THE CELL 'sum', in the pinned program and in every row, IS THE sha256 OF THE DUMP (.gsa) THAT YtejmfiocdecigaaGreatProg.lean LOADS. Nothing in Lean hashes anything: it is a label: what it is worth is what the hold of that sum in a sandbox is worth. -/
noncomputable def Tryz.pinned : Pinned := { name := "ytejmfiocdecigaagreat", sum := "84425f2e62a30bbeb15cff3b4dc263091db1b94e90e4b082cd82bb974952c533", checked := Tryz.checked }
namespace Rows
def none {H : Type} : Left H := { results := [], args := [] }

/-- 'laws.FnCanonical': WHATEVER THE INPUT: true; the input reads as it did. -/
def fnCanonicalSpec : ChangeSpec := { name := "fnCanonical", fn := fun _ => fun
  | [d] => { results := [.lit (.bool true)], args := [d] }
  | _ => none }
def fnCanonicalRow : OpenClaim := { program := "ytejmfiocdecigaagreat", sum := "84425f2e62a30bbeb15cff3b4dc263091db1b94e90e4b082cd82bb974952c533", func := "loop.example/g03107/laws.FnCanonical", spec := "fnCanonical", unfollowed := true, recurses := true, apart := false }
def FnCanonicalSaid : Prop := fnCanonicalRow.holds Tryz.pinned (OpenSpec.ofChange fnCanonicalSpec)

/-- ITS FALSE NEIGHBOUR: 'it returns false'. Refute it at one input. -/
def fnCanonicalWrong : ChangeSpec := { name := "fnCanonical", fn := fun _ => fun
  | [d] => { results := [.lit (.bool false)], args := [d] }
  | _ => none }
def FnCanonicalWrongFalsely : Prop := fnCanonicalRow.holds Tryz.pinned (OpenSpec.ofChange fnCanonicalWrong)

/-- 'laws.FnArrangements': WHATEVER THE INPUT: true; the input reads as it did. -/
def fnArrangementsSpec : ChangeSpec := { name := "fnArrangements", fn := fun _ => fun
  | [d] => { results := [.lit (.bool true)], args := [d] }
  | _ => none }
def fnArrangementsRow : OpenClaim := { program := "ytejmfiocdecigaagreat", sum := "84425f2e62a30bbeb15cff3b4dc263091db1b94e90e4b082cd82bb974952c533", func := "loop.example/g03107/laws.FnArrangements", spec := "fnArrangements", unfollowed := true, recurses := true, apart := false }
def FnArrangementsSaid : Prop := fnArrangementsRow.holds Tryz.pinned (OpenSpec.ofChange fnArrangementsSpec)

/-- ITS FALSE NEIGHBOUR: 'it returns false'. Refute it at one input. -/
def fnArrangementsWrong : ChangeSpec := { name := "fnArrangements", fn := fun _ => fun
  | [d] => { results := [.lit (.bool false)], args := [d] }
  | _ => none }
def FnArrangementsWrongFalsely : Prop := fnArrangementsRow.holds Tryz.pinned (OpenSpec.ofChange fnArrangementsWrong)

/-- 'laws.FnExactIsTerm': WHATEVER THE INPUT: true; the input reads as it did. -/
def fnExactIsTermSpec : ChangeSpec := { name := "fnExactIsTerm", fn := fun _ => fun
  | [d1, d2] => { results := [.lit (.bool true)], args := [d1, d2] }
  | _ => none }
def fnExactIsTermRow : OpenClaim := { program := "ytejmfiocdecigaagreat", sum := "84425f2e62a30bbeb15cff3b4dc263091db1b94e90e4b082cd82bb974952c533", func := "loop.example/g03107/laws.FnExactIsTerm", spec := "fnExactIsTerm", unfollowed := true, recurses := true, loops := true, apart := false }
def FnExactIsTermSaid : Prop := fnExactIsTermRow.holds Tryz.pinned (OpenSpec.ofChange fnExactIsTermSpec)

/-- ITS FALSE NEIGHBOUR: 'it returns false'. Refute it at one input. -/
def fnExactIsTermWrong : ChangeSpec := { name := "fnExactIsTerm", fn := fun _ => fun
  | [d1, d2] => { results := [.lit (.bool false)], args := [d1, d2] }
  | _ => none }
def FnExactIsTermWrongFalsely : Prop := fnExactIsTermRow.holds Tryz.pinned (OpenSpec.ofChange fnExactIsTermWrong)

/-- 'laws.FnExactKindOfTerm': WHATEVER THE INPUT: true; the input reads as it did. -/
def fnExactKindOfTermSpec : ChangeSpec := { name := "fnExactKindOfTerm", fn := fun _ => fun
  | [d1, d2] => { results := [.lit (.bool true)], args := [d1, d2] }
  | _ => none }
def fnExactKindOfTermRow : OpenClaim := { program := "ytejmfiocdecigaagreat", sum := "84425f2e62a30bbeb15cff3b4dc263091db1b94e90e4b082cd82bb974952c533", func := "loop.example/g03107/laws.FnExactKindOfTerm", spec := "fnExactKindOfTerm", unfollowed := true, recurses := true, loops := true, apart := false }
def FnExactKindOfTermSaid : Prop := fnExactKindOfTermRow.holds Tryz.pinned (OpenSpec.ofChange fnExactKindOfTermSpec)

/-- ITS FALSE NEIGHBOUR: 'it returns false'. Refute it at one input. -/
def fnExactKindOfTermWrong : ChangeSpec := { name := "fnExactKindOfTerm", fn := fun _ => fun
  | [d1, d2] => { results := [.lit (.bool false)], args := [d1, d2] }
  | _ => none }
def FnExactKindOfTermWrongFalsely : Prop := fnExactKindOfTermRow.holds Tryz.pinned (OpenSpec.ofChange fnExactKindOfTermWrong)

/-- 'laws.FnExactMakeTerm': WHATEVER THE INPUT: true; the input reads as it did. -/
def fnExactMakeTermSpec : ChangeSpec := { name := "fnExactMakeTerm", fn := fun _ => fun
  | [d1, d2, d3] => { results := [.lit (.bool true)], args := [d1, d2, d3] }
  | _ => none }
def fnExactMakeTermRow : OpenClaim := { program := "ytejmfiocdecigaagreat", sum := "84425f2e62a30bbeb15cff3b4dc263091db1b94e90e4b082cd82bb974952c533", func := "loop.example/g03107/laws.FnExactMakeTerm", spec := "fnExactMakeTerm", unfollowed := true, recurses := true, loops := true, apart := false }
def FnExactMakeTermSaid : Prop := fnExactMakeTermRow.holds Tryz.pinned (OpenSpec.ofChange fnExactMakeTermSpec)

/-- ITS FALSE NEIGHBOUR: 'it returns false'. Refute it at one input. -/
def fnExactMakeTermWrong : ChangeSpec := { name := "fnExactMakeTerm", fn := fun _ => fun
  | [d1, d2, d3] => { results := [.lit (.bool false)], args := [d1, d2, d3] }
  | _ => none }
def FnExactMakeTermWrongFalsely : Prop := fnExactMakeTermRow.holds Tryz.pinned (OpenSpec.ofChange fnExactMakeTermWrong)

/-- 'laws.FnExactCanonicalTerm': WHATEVER THE INPUT: true; the input reads as it did. -/
def fnExactCanonicalTermSpec : ChangeSpec := { name := "fnExactCanonicalTerm", fn := fun _ => fun
  | [d1, d2] => { results := [.lit (.bool true)], args := [d1, d2] }
  | _ => none }
def fnExactCanonicalTermRow : OpenClaim := { program := "ytejmfiocdecigaagreat", sum := "84425f2e62a30bbeb15cff3b4dc263091db1b94e90e4b082cd82bb974952c533", func := "loop.example/g03107/laws.FnExactCanonicalTerm", spec := "fnExactCanonicalTerm", unfollowed := true, recurses := true, loops := true, apart := false }
def FnExactCanonicalTermSaid : Prop := fnExactCanonicalTermRow.holds Tryz.pinned (OpenSpec.ofChange fnExactCanonicalTermSpec)

/-- ITS FALSE NEIGHBOUR: 'it returns false'. Refute it at one input. -/
def fnExactCanonicalTermWrong : ChangeSpec := { name := "fnExactCanonicalTerm", fn := fun _ => fun
  | [d1, d2] => { results := [.lit (.bool false)], args := [d1, d2] }
  | _ => none }
def FnExactCanonicalTermWrongFalsely : Prop := fnExactCanonicalTermRow.holds Tryz.pinned (OpenSpec.ofChange fnExactCanonicalTermWrong)

/-- 'laws.FnExactEqualModulo': WHATEVER THE INPUT: true; the input reads as it did. -/
def fnExactEqualModuloSpec : ChangeSpec := { name := "fnExactEqualModulo", fn := fun _ => fun
  | [d1, d2, d3] => { results := [.lit (.bool true)], args := [d1, d2, d3] }
  | _ => none }
def fnExactEqualModuloRow : OpenClaim := { program := "ytejmfiocdecigaagreat", sum := "84425f2e62a30bbeb15cff3b4dc263091db1b94e90e4b082cd82bb974952c533", func := "loop.example/g03107/laws.FnExactEqualModulo", spec := "fnExactEqualModulo", unfollowed := true, recurses := true, loops := true, apart := false }
def FnExactEqualModuloSaid : Prop := fnExactEqualModuloRow.holds Tryz.pinned (OpenSpec.ofChange fnExactEqualModuloSpec)

/-- ITS FALSE NEIGHBOUR: 'it returns false'. Refute it at one input. -/
def fnExactEqualModuloWrong : ChangeSpec := { name := "fnExactEqualModulo", fn := fun _ => fun
  | [d1, d2, d3] => { results := [.lit (.bool false)], args := [d1, d2, d3] }
  | _ => none }
def FnExactEqualModuloWrongFalsely : Prop := fnExactEqualModuloRow.holds Tryz.pinned (OpenSpec.ofChange fnExactEqualModuloWrong)

/- THE SECOND FORM. 'bulk': how many values and letters a reading holds, each counted each time it is reached (what is shared counts as often as it is met; a slice's spare places count too). A statement '..UptoSaid' is the law's where the arguments, and the package variables that the reading takes, are together of bulk at most 1048576: NARROWER than '..Said'. Prove '..Said' where nothing that the law and all that it calls make is longer than what came in: it says more and counts as full. Else prove '..UptoSaid'. A law counts once. -/
mutual
def uptoBulk {H : Type} : DataW H → Nat
  | .lit (.string bytes) => bytes.length + 1
  | .lit _ => 1
  | .nil => 1
  | .ptr d => uptoBulk d + 1
  | .slice elems spare => uptoBulkAll elems + uptoBulkAll spare + 1
  | .agg parts => uptoBulkAll parts + 1
  | .iface _ d => uptoBulk d + 1
  | .map entries => uptoBulkEntries entries + 1
  | .held _ => 1
def uptoBulkAll {H : Type} : List (DataW H) → Nat
  | [] => 0
  | d :: r => uptoBulk d + uptoBulkAll r
def uptoBulkEntries {H : Type} : List (Lit × DataW H) → Nat
  | [] => 0
  | x :: r => uptoBulkEntry x + uptoBulkEntries r
def uptoBulkEntry {H : Type} : Lit × DataW H → Nat
  | (.string bytes, d) => bytes.length + uptoBulk d + 1
  | (_, d) => uptoBulk d + 1
 end
def uptoSmall : (H : Type) → List (DataW H) → Bool := fun _ ds => decide (uptoBulkAll ds ≤ 1048576)
def OpenSpec.upto (s : _root_.Go.ChangeSpec) : _root_.Go.OpenSpec := { _root_.Go.OpenSpec.ofChange s with cond := some uptoSmall }

/-- 'laws.FnCanonical', WHERE WHAT IT READS IS OF BULK AT MOST 1048576: true; the input reads as it did. -/
def fnCanonicalUptoRow : OpenClaim := { program := "ytejmfiocdecigaagreat", sum := "84425f2e62a30bbeb15cff3b4dc263091db1b94e90e4b082cd82bb974952c533", func := "loop.example/g03107/laws.FnCanonical", spec := "fnCanonical", unfollowed := true, recurses := true, apart := false, narrowed := true }
def FnCanonicalUptoSaid : Prop := fnCanonicalUptoRow.holds Tryz.pinned (OpenSpec.upto fnCanonicalSpec)

/-- 'laws.FnArrangements', WHERE WHAT IT READS IS OF BULK AT MOST 1048576: true; the input reads as it did. -/
def fnArrangementsUptoRow : OpenClaim := { program := "ytejmfiocdecigaagreat", sum := "84425f2e62a30bbeb15cff3b4dc263091db1b94e90e4b082cd82bb974952c533", func := "loop.example/g03107/laws.FnArrangements", spec := "fnArrangements", unfollowed := true, recurses := true, apart := false, narrowed := true }
def FnArrangementsUptoSaid : Prop := fnArrangementsUptoRow.holds Tryz.pinned (OpenSpec.upto fnArrangementsSpec)

/-- 'laws.FnExactIsTerm', WHERE WHAT IT READS IS OF BULK AT MOST 1048576: true; the input reads as it did. -/
def fnExactIsTermUptoRow : OpenClaim := { program := "ytejmfiocdecigaagreat", sum := "84425f2e62a30bbeb15cff3b4dc263091db1b94e90e4b082cd82bb974952c533", func := "loop.example/g03107/laws.FnExactIsTerm", spec := "fnExactIsTerm", unfollowed := true, recurses := true, loops := true, apart := false, narrowed := true }
def FnExactIsTermUptoSaid : Prop := fnExactIsTermUptoRow.holds Tryz.pinned (OpenSpec.upto fnExactIsTermSpec)

/-- 'laws.FnExactKindOfTerm', WHERE WHAT IT READS IS OF BULK AT MOST 1048576: true; the input reads as it did. -/
def fnExactKindOfTermUptoRow : OpenClaim := { program := "ytejmfiocdecigaagreat", sum := "84425f2e62a30bbeb15cff3b4dc263091db1b94e90e4b082cd82bb974952c533", func := "loop.example/g03107/laws.FnExactKindOfTerm", spec := "fnExactKindOfTerm", unfollowed := true, recurses := true, loops := true, apart := false, narrowed := true }
def FnExactKindOfTermUptoSaid : Prop := fnExactKindOfTermUptoRow.holds Tryz.pinned (OpenSpec.upto fnExactKindOfTermSpec)

/-- 'laws.FnExactMakeTerm', WHERE WHAT IT READS IS OF BULK AT MOST 1048576: true; the input reads as it did. -/
def fnExactMakeTermUptoRow : OpenClaim := { program := "ytejmfiocdecigaagreat", sum := "84425f2e62a30bbeb15cff3b4dc263091db1b94e90e4b082cd82bb974952c533", func := "loop.example/g03107/laws.FnExactMakeTerm", spec := "fnExactMakeTerm", unfollowed := true, recurses := true, loops := true, apart := false, narrowed := true }
def FnExactMakeTermUptoSaid : Prop := fnExactMakeTermUptoRow.holds Tryz.pinned (OpenSpec.upto fnExactMakeTermSpec)

/-- 'laws.FnExactCanonicalTerm', WHERE WHAT IT READS IS OF BULK AT MOST 1048576: true; the input reads as it did. -/
def fnExactCanonicalTermUptoRow : OpenClaim := { program := "ytejmfiocdecigaagreat", sum := "84425f2e62a30bbeb15cff3b4dc263091db1b94e90e4b082cd82bb974952c533", func := "loop.example/g03107/laws.FnExactCanonicalTerm", spec := "fnExactCanonicalTerm", unfollowed := true, recurses := true, loops := true, apart := false, narrowed := true }
def FnExactCanonicalTermUptoSaid : Prop := fnExactCanonicalTermUptoRow.holds Tryz.pinned (OpenSpec.upto fnExactCanonicalTermSpec)

/-- 'laws.FnExactEqualModulo', WHERE WHAT IT READS IS OF BULK AT MOST 1048576: true; the input reads as it did. -/
def fnExactEqualModuloUptoRow : OpenClaim := { program := "ytejmfiocdecigaagreat", sum := "84425f2e62a30bbeb15cff3b4dc263091db1b94e90e4b082cd82bb974952c533", func := "loop.example/g03107/laws.FnExactEqualModulo", spec := "fnExactEqualModulo", unfollowed := true, recurses := true, loops := true, apart := false, narrowed := true }
def FnExactEqualModuloUptoSaid : Prop := fnExactEqualModuloUptoRow.holds Tryz.pinned (OpenSpec.upto fnExactEqualModuloSpec)

end Rows
end Go.Proofs.YtejmfiocdecigaaGreat
