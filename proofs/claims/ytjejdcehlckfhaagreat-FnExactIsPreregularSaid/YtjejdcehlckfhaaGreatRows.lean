/-
  NARROWER THAN 'FOR EVERY INPUT', by the rows' own cells (each row's printed sentence says how): FnExactSortsOf: loops · FnExactLeastSortOf: loops · FnExactApplySubstitution: loops · FnExactComposeSubstitutions: loops.
  DERIVED. THE GIVEN ROWS OF THIS SEAT. 5 by the template 'for every input the law returns true; each argument reads behind the call as it read before'; 0 by the template 'total and deterministic' (their statements: YtjejdcehlckfhaaGreatTotals.lean).
  GIVEN WITH THE SEED: the statements are not yours to turn. If you find one false, say at which input.
  Laid BY PROGRAM, IN A SANDBOX (cutbox-rows.mjs): the forced cells as the released guide's own fill.sh prints them over the translation 4a3174e798e3465f… (all of the seat's roots in one cut). By AI agents, Wed Nov 11 2026. No macro, syntax, notation, axiom, sorry.
-/
import Derived.Test.YtjejdcehlckfhaaGreatChecked
import GoSem.Claim
import GoSem.ClaimJoined
import GoSem.ClaimMapViews
import Derived.JoinedTies
import Derived.KernelRfl
namespace Go.Proofs.YtjejdcehlckfhaaGreat
/- THE CELL 'sum', in the pinned program and in every row, IS THE sha256 OF THE DUMP (.gsa) THAT YtjejdcehlckfhaaGreatProg.lean LOADS. Nothing in Lean hashes anything: it is a label: what it is worth is what the hold of that sum in a sandbox is worth. -/
noncomputable def Tryz.pinned : Pinned := { name := "ytjejdcehlckfhaagreat", sum := "4a3174e798e3465fabf7178064955fd0b6d0ce89faad8c4645391e6c2be1dd73", checked := Tryz.checked }
namespace Rows
def none {H : Type} : Left H := { results := [], args := [] }

/-- 'laws.FnExactSortsOf': WHATEVER THE INPUT: true; the input reads as it did. -/
def fnExactSortsOfSpec : ChangeSpec := { name := "fnExactSortsOf", fn := fun _ => fun
  | [d1, d2] => { results := [.lit (.bool true)], args := [d1, d2] }
  | _ => none }
def fnExactSortsOfRow : OpenClaim := { program := "ytjejdcehlckfhaagreat", sum := "4a3174e798e3465fabf7178064955fd0b6d0ce89faad8c4645391e6c2be1dd73", func := "loop.example/g03107/laws.FnExactSortsOf", spec := "fnExactSortsOf", unfollowed := true, recurses := true, loops := true, apart := false }
def FnExactSortsOfSaid : Prop := fnExactSortsOfRow.holds Tryz.pinned (OpenSpec.ofChange fnExactSortsOfSpec)

/-- ITS FALSE NEIGHBOUR: 'it returns false'. Refute it at one input. -/
def fnExactSortsOfWrong : ChangeSpec := { name := "fnExactSortsOf", fn := fun _ => fun
  | [d1, d2] => { results := [.lit (.bool false)], args := [d1, d2] }
  | _ => none }
def FnExactSortsOfWrongFalsely : Prop := fnExactSortsOfRow.holds Tryz.pinned (OpenSpec.ofChange fnExactSortsOfWrong)

/-- 'laws.FnExactLeastSortOf': WHATEVER THE INPUT: true; the input reads as it did. -/
def fnExactLeastSortOfSpec : ChangeSpec := { name := "fnExactLeastSortOf", fn := fun _ => fun
  | [d1, d2] => { results := [.lit (.bool true)], args := [d1, d2] }
  | _ => none }
def fnExactLeastSortOfRow : OpenClaim := { program := "ytjejdcehlckfhaagreat", sum := "4a3174e798e3465fabf7178064955fd0b6d0ce89faad8c4645391e6c2be1dd73", func := "loop.example/g03107/laws.FnExactLeastSortOf", spec := "fnExactLeastSortOf", unfollowed := true, recurses := true, loops := true, apart := false }
def FnExactLeastSortOfSaid : Prop := fnExactLeastSortOfRow.holds Tryz.pinned (OpenSpec.ofChange fnExactLeastSortOfSpec)

/-- ITS FALSE NEIGHBOUR: 'it returns false'. Refute it at one input. -/
def fnExactLeastSortOfWrong : ChangeSpec := { name := "fnExactLeastSortOf", fn := fun _ => fun
  | [d1, d2] => { results := [.lit (.bool false)], args := [d1, d2] }
  | _ => none }
def FnExactLeastSortOfWrongFalsely : Prop := fnExactLeastSortOfRow.holds Tryz.pinned (OpenSpec.ofChange fnExactLeastSortOfWrong)

/-- 'laws.FnExactIsPreregular': WHATEVER THE INPUT: true; the input reads as it did. -/
def fnExactIsPreregularSpec : ChangeSpec := { name := "fnExactIsPreregular", fn := fun _ => fun
  | [d] => { results := [.lit (.bool true)], args := [d] }
  | _ => none }
def fnExactIsPreregularRow : OpenClaim := { program := "ytjejdcehlckfhaagreat", sum := "4a3174e798e3465fabf7178064955fd0b6d0ce89faad8c4645391e6c2be1dd73", func := "loop.example/g03107/laws.FnExactIsPreregular", spec := "fnExactIsPreregular", recurses := true, apart := false }
def FnExactIsPreregularSaid : Prop := fnExactIsPreregularRow.holds Tryz.pinned (OpenSpec.ofChange fnExactIsPreregularSpec)

/-- ITS FALSE NEIGHBOUR: 'it returns false'. Refute it at one input. -/
def fnExactIsPreregularWrong : ChangeSpec := { name := "fnExactIsPreregular", fn := fun _ => fun
  | [d] => { results := [.lit (.bool false)], args := [d] }
  | _ => none }
def FnExactIsPreregularWrongFalsely : Prop := fnExactIsPreregularRow.holds Tryz.pinned (OpenSpec.ofChange fnExactIsPreregularWrong)

/-- 'laws.FnExactApplySubstitution': WHATEVER THE INPUT: true; the input reads as it did. -/
def fnExactApplySubstitutionSpec : ChangeSpec := { name := "fnExactApplySubstitution", fn := fun _ => fun
  | [d1, d2, d3] => { results := [.lit (.bool true)], args := [d1, d2, d3] }
  | _ => none }
def fnExactApplySubstitutionRow : OpenClaim := { program := "ytjejdcehlckfhaagreat", sum := "4a3174e798e3465fabf7178064955fd0b6d0ce89faad8c4645391e6c2be1dd73", func := "loop.example/g03107/laws.FnExactApplySubstitution", spec := "fnExactApplySubstitution", unfollowed := true, recurses := true, loops := true, apart := false }
def FnExactApplySubstitutionSaid : Prop := fnExactApplySubstitutionRow.holds Tryz.pinned (OpenSpec.ofChange fnExactApplySubstitutionSpec)

/-- ITS FALSE NEIGHBOUR: 'it returns false'. Refute it at one input. -/
def fnExactApplySubstitutionWrong : ChangeSpec := { name := "fnExactApplySubstitution", fn := fun _ => fun
  | [d1, d2, d3] => { results := [.lit (.bool false)], args := [d1, d2, d3] }
  | _ => none }
def FnExactApplySubstitutionWrongFalsely : Prop := fnExactApplySubstitutionRow.holds Tryz.pinned (OpenSpec.ofChange fnExactApplySubstitutionWrong)

/-- 'laws.FnExactComposeSubstitutions': WHATEVER THE INPUT: true; the input reads as it did. -/
def fnExactComposeSubstitutionsSpec : ChangeSpec := { name := "fnExactComposeSubstitutions", fn := fun _ => fun
  | [d1, d2, d3] => { results := [.lit (.bool true)], args := [d1, d2, d3] }
  | _ => none }
def fnExactComposeSubstitutionsRow : OpenClaim := { program := "ytjejdcehlckfhaagreat", sum := "4a3174e798e3465fabf7178064955fd0b6d0ce89faad8c4645391e6c2be1dd73", func := "loop.example/g03107/laws.FnExactComposeSubstitutions", spec := "fnExactComposeSubstitutions", inPlace := ["slices.overlaps[loop.example/g03107/impl.Binding]"], unfollowed := true, recurses := true, loops := true, apart := false }
def FnExactComposeSubstitutionsSaid : Prop := fnExactComposeSubstitutionsRow.holds Tryz.pinned (OpenSpec.ofChange fnExactComposeSubstitutionsSpec)

/-- ITS FALSE NEIGHBOUR: 'it returns false'. Refute it at one input. -/
def fnExactComposeSubstitutionsWrong : ChangeSpec := { name := "fnExactComposeSubstitutions", fn := fun _ => fun
  | [d1, d2, d3] => { results := [.lit (.bool false)], args := [d1, d2, d3] }
  | _ => none }
def FnExactComposeSubstitutionsWrongFalsely : Prop := fnExactComposeSubstitutionsRow.holds Tryz.pinned (OpenSpec.ofChange fnExactComposeSubstitutionsWrong)

/- THE SECOND FORM. 'bulk': how many values and letters a reading holds, each counted each time it is reached (what is shared counts as often as it is met; a slice's spare places count too). A statement '..UptoSaid' is the law's where the arguments, and the package variables that the reading takes, are together of bulk at most 1048576: NARROWER than '..Said'. Prove '..Said' where nothing that the law and all that it calls make is longer than what came in: it says more and counts as full. Else prove '..UptoSaid'. A law counts once. -/
mutual
def uptoBulk {H : Type} : DataW H → Nat
  | .lit (.string bytes) => bytes.length + 1
  | .lit _ => 1
  | .nil => 1
  | .ptr d => uptoBulk d + 1
  | .slice elems spare => uptoBulkAll elems + uptoBulkAll spare + 1
  | .agg parts => uptoBulkAll parts + 1
  | .iface _ d => uptoBulk d + 1
  | .map entries => uptoBulkEntries entries + 1
  | .held _ => 1
def uptoBulkAll {H : Type} : List (DataW H) → Nat
  | [] => 0
  | d :: r => uptoBulk d + uptoBulkAll r
def uptoBulkEntries {H : Type} : List (Lit × DataW H) → Nat
  | [] => 0
  | x :: r => uptoBulkEntry x + uptoBulkEntries r
def uptoBulkEntry {H : Type} : Lit × DataW H → Nat
  | (.string bytes, d) => bytes.length + uptoBulk d + 1
  | (_, d) => uptoBulk d + 1
 end
def uptoSmall : (H : Type) → List (DataW H) → Bool := fun _ ds => decide (uptoBulkAll ds ≤ 1048576)
def OpenSpec.upto (s : _root_.Go.ChangeSpec) : _root_.Go.OpenSpec := { _root_.Go.OpenSpec.ofChange s with cond := some uptoSmall }

/-- 'laws.FnExactSortsOf', WHERE WHAT IT READS IS OF BULK AT MOST 1048576: true; the input reads as it did. -/
def fnExactSortsOfUptoRow : OpenClaim := { program := "ytjejdcehlckfhaagreat", sum := "4a3174e798e3465fabf7178064955fd0b6d0ce89faad8c4645391e6c2be1dd73", func := "loop.example/g03107/laws.FnExactSortsOf", spec := "fnExactSortsOf", unfollowed := true, recurses := true, loops := true, apart := false, narrowed := true }
def FnExactSortsOfUptoSaid : Prop := fnExactSortsOfUptoRow.holds Tryz.pinned (OpenSpec.upto fnExactSortsOfSpec)

/-- 'laws.FnExactLeastSortOf', WHERE WHAT IT READS IS OF BULK AT MOST 1048576: true; the input reads as it did. -/
def fnExactLeastSortOfUptoRow : OpenClaim := { program := "ytjejdcehlckfhaagreat", sum := "4a3174e798e3465fabf7178064955fd0b6d0ce89faad8c4645391e6c2be1dd73", func := "loop.example/g03107/laws.FnExactLeastSortOf", spec := "fnExactLeastSortOf", unfollowed := true, recurses := true, loops := true, apart := false, narrowed := true }
def FnExactLeastSortOfUptoSaid : Prop := fnExactLeastSortOfUptoRow.holds Tryz.pinned (OpenSpec.upto fnExactLeastSortOfSpec)

/-- 'laws.FnExactIsPreregular', WHERE WHAT IT READS IS OF BULK AT MOST 1048576: true; the input reads as it did. -/
def fnExactIsPreregularUptoRow : OpenClaim := { program := "ytjejdcehlckfhaagreat", sum := "4a3174e798e3465fabf7178064955fd0b6d0ce89faad8c4645391e6c2be1dd73", func := "loop.example/g03107/laws.FnExactIsPreregular", spec := "fnExactIsPreregular", recurses := true, apart := false, narrowed := true }
def FnExactIsPreregularUptoSaid : Prop := fnExactIsPreregularUptoRow.holds Tryz.pinned (OpenSpec.upto fnExactIsPreregularSpec)

/-- 'laws.FnExactApplySubstitution', WHERE WHAT IT READS IS OF BULK AT MOST 1048576: true; the input reads as it did. -/
def fnExactApplySubstitutionUptoRow : OpenClaim := { program := "ytjejdcehlckfhaagreat", sum := "4a3174e798e3465fabf7178064955fd0b6d0ce89faad8c4645391e6c2be1dd73", func := "loop.example/g03107/laws.FnExactApplySubstitution", spec := "fnExactApplySubstitution", unfollowed := true, recurses := true, loops := true, apart := false, narrowed := true }
def FnExactApplySubstitutionUptoSaid : Prop := fnExactApplySubstitutionUptoRow.holds Tryz.pinned (OpenSpec.upto fnExactApplySubstitutionSpec)

/-- 'laws.FnExactComposeSubstitutions', WHERE WHAT IT READS IS OF BULK AT MOST 1048576: true; the input reads as it did. -/
def fnExactComposeSubstitutionsUptoRow : OpenClaim := { program := "ytjejdcehlckfhaagreat", sum := "4a3174e798e3465fabf7178064955fd0b6d0ce89faad8c4645391e6c2be1dd73", func := "loop.example/g03107/laws.FnExactComposeSubstitutions", spec := "fnExactComposeSubstitutions", inPlace := ["slices.overlaps[loop.example/g03107/impl.Binding]"], unfollowed := true, recurses := true, loops := true, apart := false, narrowed := true }
def FnExactComposeSubstitutionsUptoSaid : Prop := fnExactComposeSubstitutionsUptoRow.holds Tryz.pinned (OpenSpec.upto fnExactComposeSubstitutionsSpec)

end Rows
end Go.Proofs.YtjejdcehlckfhaaGreat
