/-
  NARROWER THAN 'FOR EVERY INPUT', by the rows' own cells (each row's printed sentence says how): FnExactMakeTerm: loops · FnExactEqualModulo: loops · FnExactApplySubstitution: loops.
  DERIVED. THE GIVEN ROWS OF THIS SEAT. 3 by the template 'for every input the law returns true; each argument reads behind the call as it read before'; 0 by the template 'total and deterministic' (their statements: YtkkmjaggebjcbaaGreatTotals.lean).
  GIVEN WITH THE SEED: the statements are not yours to turn. If you find one false, say at which input.
  Laid BY PROGRAM, IN A SANDBOX (cutbox-rows.mjs): the forced cells as the released guide's own fill.sh prints them over the translation 9adae82e62cffc48… (all of the seat's roots in one cut). By AI agents, Wed Nov 11 2026. No macro, syntax, notation, axiom, sorry.
-/
import Derived.Test.YtkkmjaggebjcbaaGreatChecked
import GoSem.Claim
import GoSem.ClaimJoined
import GoSem.ClaimMapViews
import Derived.JoinedTies
import Derived.KernelRfl
namespace Go.Proofs.YtkkmjaggebjcbaaGreat
/- THE CELL 'sum', in the pinned program and in every row, IS THE sha256 OF THE DUMP (.gsa) THAT YtkkmjaggebjcbaaGreatProg.lean LOADS. Nothing in Lean hashes anything: it is a label: what it is worth is what the hold of that sum in a sandbox is worth. -/
noncomputable def Tryz.pinned : Pinned := { name := "ytkkmjaggebjcbaagreat", sum := "9adae82e62cffc48d85c7cd5fed6bfe59fa29c0406ac9cf729ded5d1db967579", checked := Tryz.checked }
namespace Rows
def none {H : Type} : Left H := { results := [], args := [] }

/-- 'laws.FnExactMakeTerm': WHATEVER THE INPUT: true; the input reads as it did. -/
def fnExactMakeTermSpec : ChangeSpec := { name := "fnExactMakeTerm", fn := fun _ => fun
  | [d1, d2, d3] => { results := [.lit (.bool true)], args := [d1, d2, d3] }
  | _ => none }
def fnExactMakeTermRow : OpenClaim := { program := "ytkkmjaggebjcbaagreat", sum := "9adae82e62cffc48d85c7cd5fed6bfe59fa29c0406ac9cf729ded5d1db967579", func := "loop.example/g03107/laws.FnExactMakeTerm", spec := "fnExactMakeTerm", unfollowed := true, recurses := true, loops := true, apart := false }
def FnExactMakeTermSaid : Prop := fnExactMakeTermRow.holds Tryz.pinned (OpenSpec.ofChange fnExactMakeTermSpec)

/-- ITS FALSE NEIGHBOUR: 'it returns false'. Refute it at one input. -/
def fnExactMakeTermWrong : ChangeSpec := { name := "fnExactMakeTerm", fn := fun _ => fun
  | [d1, d2, d3] => { results := [.lit (.bool false)], args := [d1, d2, d3] }
  | _ => none }
def FnExactMakeTermWrongFalsely : Prop := fnExactMakeTermRow.holds Tryz.pinned (OpenSpec.ofChange fnExactMakeTermWrong)

/-- 'laws.FnExactEqualModulo': WHATEVER THE INPUT: true; the input reads as it did. -/
def fnExactEqualModuloSpec : ChangeSpec := { name := "fnExactEqualModulo", fn := fun _ => fun
  | [d1, d2, d3] => { results := [.lit (.bool true)], args := [d1, d2, d3] }
  | _ => none }
def fnExactEqualModuloRow : OpenClaim := { program := "ytkkmjaggebjcbaagreat", sum := "9adae82e62cffc48d85c7cd5fed6bfe59fa29c0406ac9cf729ded5d1db967579", func := "loop.example/g03107/laws.FnExactEqualModulo", spec := "fnExactEqualModulo", unfollowed := true, recurses := true, loops := true, apart := false }
def FnExactEqualModuloSaid : Prop := fnExactEqualModuloRow.holds Tryz.pinned (OpenSpec.ofChange fnExactEqualModuloSpec)

/-- ITS FALSE NEIGHBOUR: 'it returns false'. Refute it at one input. -/
def fnExactEqualModuloWrong : ChangeSpec := { name := "fnExactEqualModulo", fn := fun _ => fun
  | [d1, d2, d3] => { results := [.lit (.bool false)], args := [d1, d2, d3] }
  | _ => none }
def FnExactEqualModuloWrongFalsely : Prop := fnExactEqualModuloRow.holds Tryz.pinned (OpenSpec.ofChange fnExactEqualModuloWrong)

/-- 'laws.FnExactApplySubstitution': WHATEVER THE INPUT: true; the input reads as it did. -/
def fnExactApplySubstitutionSpec : ChangeSpec := { name := "fnExactApplySubstitution", fn := fun _ => fun
  | [d1, d2, d3] => { results := [.lit (.bool true)], args := [d1, d2, d3] }
  | _ => none }
def fnExactApplySubstitutionRow : OpenClaim := { program := "ytkkmjaggebjcbaagreat", sum := "9adae82e62cffc48d85c7cd5fed6bfe59fa29c0406ac9cf729ded5d1db967579", func := "loop.example/g03107/laws.FnExactApplySubstitution", spec := "fnExactApplySubstitution", unfollowed := true, recurses := true, loops := true, apart := false }
def FnExactApplySubstitutionSaid : Prop := fnExactApplySubstitutionRow.holds Tryz.pinned (OpenSpec.ofChange fnExactApplySubstitutionSpec)

/-- ITS FALSE NEIGHBOUR: 'it returns false'. Refute it at one input. -/
def fnExactApplySubstitutionWrong : ChangeSpec := { name := "fnExactApplySubstitution", fn := fun _ => fun
  | [d1, d2, d3] => { results := [.lit (.bool false)], args := [d1, d2, d3] }
  | _ => none }
def FnExactApplySubstitutionWrongFalsely : Prop := fnExactApplySubstitutionRow.holds Tryz.pinned (OpenSpec.ofChange fnExactApplySubstitutionWrong)

/- THE SECOND FORM. 'bulk': how many values and letters a reading holds, each counted each time it is reached (what is shared counts as often as it is met; a slice's spare places count too). A statement '..UptoSaid' is the law's where the arguments, and the package variables that the reading takes, are together of bulk at most 1048576: NARROWER than '..Said'. Prove '..Said' where nothing that the law and all that it calls make is longer than what came in: it says more and counts as full. Else prove '..UptoSaid'. A law counts once. -/
mutual
def uptoBulk {H : Type} : DataW H → Nat
  | .lit (.string bytes) => bytes.length + 1
  | .lit _ => 1
  | .nil => 1
  | .ptr d => uptoBulk d + 1
  | .slice elems spare => uptoBulkAll elems + uptoBulkAll spare + 1
  | .agg parts => uptoBulkAll parts + 1
  | .iface _ d => uptoBulk d + 1
  | .map entries => uptoBulkEntries entries + 1
  | .held _ => 1
def uptoBulkAll {H : Type} : List (DataW H) → Nat
  | [] => 0
  | d :: r => uptoBulk d + uptoBulkAll r
def uptoBulkEntries {H : Type} : List (Lit × DataW H) → Nat
  | [] => 0
  | x :: r => uptoBulkEntry x + uptoBulkEntries r
def uptoBulkEntry {H : Type} : Lit × DataW H → Nat
  | (.string bytes, d) => bytes.length + uptoBulk d + 1
  | (_, d) => uptoBulk d + 1
 end
def uptoSmall : (H : Type) → List (DataW H) → Bool := fun _ ds => decide (uptoBulkAll ds ≤ 1048576)
def OpenSpec.upto (s : _root_.Go.ChangeSpec) : _root_.Go.OpenSpec := { _root_.Go.OpenSpec.ofChange s with cond := some uptoSmall }

/-- 'laws.FnExactMakeTerm', WHERE WHAT IT READS IS OF BULK AT MOST 1048576: true; the input reads as it did. -/
def fnExactMakeTermUptoRow : OpenClaim := { program := "ytkkmjaggebjcbaagreat", sum := "9adae82e62cffc48d85c7cd5fed6bfe59fa29c0406ac9cf729ded5d1db967579", func := "loop.example/g03107/laws.FnExactMakeTerm", spec := "fnExactMakeTerm", unfollowed := true, recurses := true, loops := true, apart := false, narrowed := true }
def FnExactMakeTermUptoSaid : Prop := fnExactMakeTermUptoRow.holds Tryz.pinned (OpenSpec.upto fnExactMakeTermSpec)

/-- 'laws.FnExactEqualModulo', WHERE WHAT IT READS IS OF BULK AT MOST 1048576: true; the input reads as it did. -/
def fnExactEqualModuloUptoRow : OpenClaim := { program := "ytkkmjaggebjcbaagreat", sum := "9adae82e62cffc48d85c7cd5fed6bfe59fa29c0406ac9cf729ded5d1db967579", func := "loop.example/g03107/laws.FnExactEqualModulo", spec := "fnExactEqualModulo", unfollowed := true, recurses := true, loops := true, apart := false, narrowed := true }
def FnExactEqualModuloUptoSaid : Prop := fnExactEqualModuloUptoRow.holds Tryz.pinned (OpenSpec.upto fnExactEqualModuloSpec)

/-- 'laws.FnExactApplySubstitution', WHERE WHAT IT READS IS OF BULK AT MOST 1048576: true; the input reads as it did. -/
def fnExactApplySubstitutionUptoRow : OpenClaim := { program := "ytkkmjaggebjcbaagreat", sum := "9adae82e62cffc48d85c7cd5fed6bfe59fa29c0406ac9cf729ded5d1db967579", func := "loop.example/g03107/laws.FnExactApplySubstitution", spec := "fnExactApplySubstitution", unfollowed := true, recurses := true, loops := true, apart := false, narrowed := true }
def FnExactApplySubstitutionUptoSaid : Prop := fnExactApplySubstitutionUptoRow.holds Tryz.pinned (OpenSpec.upto fnExactApplySubstitutionSpec)

end Rows
end Go.Proofs.YtkkmjaggebjcbaaGreat
