/-
  NARROWER THAN 'FOR EVERY INPUT', by the rows' own cells (each row's printed sentence says how): FnExactIsGround: loops.
  DERIVED. THE GIVEN ROWS OF THIS SEAT. 4 by the template 'for every input the law returns true; each argument reads behind the call as it read before'; 0 by the template 'total and deterministic' (their statements: YtejkkdnjdfehjaaTotals.lean).
  GIVEN WITH THE SEED: the statements are not yours to turn. If you find one false, say at which input.
  Laid BY PROGRAM, IN A SANDBOX (cutbox-rows.mjs): the forced cells as the released guide's own fill.sh prints them over the translation 19505eb3351932b7… (all of the seat's roots in one cut). By AI agents, Wed Nov 11 2026. No macro, syntax, notation, axiom, sorry.
-/
import Derived.Test.YtejkkdnjdfehjaaChecked
import GoSem.Claim
import GoSem.ClaimJoined
import GoSem.ClaimMapViews
import Derived.JoinedTies
import Derived.KernelRfl
namespace Go.Proofs.Ytejkkdnjdfehjaa
/- THE CELL 'sum', in the pinned program and in every row, IS THE sha256 OF THE DUMP (.gsa) THAT YtejkkdnjdfehjaaProg.lean LOADS. Nothing in Lean hashes anything: it is a label: what it is worth is what the hold of that sum in a sandbox is worth. -/
noncomputable def Try.pinned : Pinned := { name := "ytejkkdnjdfehjaa", sum := "19505eb3351932b7a7b47d52c3e4b461fafb9ae667a9ae6ade9796cb65bca2e2", checked := Try.checked }
namespace Rows
def none {H : Type} : Left H := { results := [], args := [] }

/-- 'laws.FnExactFindOp': WHATEVER THE INPUT: true; the input reads as it did. -/
def fnExactFindOpSpec : ChangeSpec := { name := "fnExactFindOp", fn := fun _ => fun
  | [d1, d2] => { results := [.lit (.bool true)], args := [d1, d2] }
  | _ => none }
def fnExactFindOpRow : OpenClaim := { program := "ytejkkdnjdfehjaa", sum := "19505eb3351932b7a7b47d52c3e4b461fafb9ae667a9ae6ade9796cb65bca2e2", func := "loop.example/g03107/laws.FnExactFindOp", spec := "fnExactFindOp", apart := false }
def FnExactFindOpSaid : Prop := fnExactFindOpRow.holds Try.pinned (OpenSpec.ofChange fnExactFindOpSpec)

/-- ITS FALSE NEIGHBOUR: 'it returns false'. Refute it at one input. -/
def fnExactFindOpWrong : ChangeSpec := { name := "fnExactFindOp", fn := fun _ => fun
  | [d1, d2] => { results := [.lit (.bool false)], args := [d1, d2] }
  | _ => none }
def FnExactFindOpWrongFalsely : Prop := fnExactFindOpRow.holds Try.pinned (OpenSpec.ofChange fnExactFindOpWrong)

/-- 'laws.FnExactArityOf': WHATEVER THE INPUT: true; the input reads as it did. -/
def fnExactArityOfSpec : ChangeSpec := { name := "fnExactArityOf", fn := fun _ => fun
  | [d1, d2] => { results := [.lit (.bool true)], args := [d1, d2] }
  | _ => none }
def fnExactArityOfRow : OpenClaim := { program := "ytejkkdnjdfehjaa", sum := "19505eb3351932b7a7b47d52c3e4b461fafb9ae667a9ae6ade9796cb65bca2e2", func := "loop.example/g03107/laws.FnExactArityOf", spec := "fnExactArityOf", apart := false }
def FnExactArityOfSaid : Prop := fnExactArityOfRow.holds Try.pinned (OpenSpec.ofChange fnExactArityOfSpec)

/-- ITS FALSE NEIGHBOUR: 'it returns false'. Refute it at one input. -/
def fnExactArityOfWrong : ChangeSpec := { name := "fnExactArityOf", fn := fun _ => fun
  | [d1, d2] => { results := [.lit (.bool false)], args := [d1, d2] }
  | _ => none }
def FnExactArityOfWrongFalsely : Prop := fnExactArityOfRow.holds Try.pinned (OpenSpec.ofChange fnExactArityOfWrong)

/-- 'laws.FnExactIsFreeSignature': WHATEVER THE INPUT: true; the input reads as it did. -/
def fnExactIsFreeSignatureSpec : ChangeSpec := { name := "fnExactIsFreeSignature", fn := fun _ => fun
  | [d] => { results := [.lit (.bool true)], args := [d] }
  | _ => none }
def fnExactIsFreeSignatureRow : OpenClaim := { program := "ytejkkdnjdfehjaa", sum := "19505eb3351932b7a7b47d52c3e4b461fafb9ae667a9ae6ade9796cb65bca2e2", func := "loop.example/g03107/laws.FnExactIsFreeSignature", spec := "fnExactIsFreeSignature", unfollowed := true, recurses := true, apart := false }
def FnExactIsFreeSignatureSaid : Prop := fnExactIsFreeSignatureRow.holds Try.pinned (OpenSpec.ofChange fnExactIsFreeSignatureSpec)

/-- ITS FALSE NEIGHBOUR: 'it returns false'. Refute it at one input. -/
def fnExactIsFreeSignatureWrong : ChangeSpec := { name := "fnExactIsFreeSignature", fn := fun _ => fun
  | [d] => { results := [.lit (.bool false)], args := [d] }
  | _ => none }
def FnExactIsFreeSignatureWrongFalsely : Prop := fnExactIsFreeSignatureRow.holds Try.pinned (OpenSpec.ofChange fnExactIsFreeSignatureWrong)

/-- 'laws.FnExactIsGround': WHATEVER THE INPUT: true; the input reads as it did. -/
def fnExactIsGroundSpec : ChangeSpec := { name := "fnExactIsGround", fn := fun _ => fun
  | [d] => { results := [.lit (.bool true)], args := [d] }
  | _ => none }
def fnExactIsGroundRow : OpenClaim := { program := "ytejkkdnjdfehjaa", sum := "19505eb3351932b7a7b47d52c3e4b461fafb9ae667a9ae6ade9796cb65bca2e2", func := "loop.example/g03107/laws.FnExactIsGround", spec := "fnExactIsGround", unfollowed := true, recurses := true, loops := true, apart := false }
def FnExactIsGroundSaid : Prop := fnExactIsGroundRow.holds Try.pinned (OpenSpec.ofChange fnExactIsGroundSpec)

/-- ITS FALSE NEIGHBOUR: 'it returns false'. Refute it at one input. -/
def fnExactIsGroundWrong : ChangeSpec := { name := "fnExactIsGround", fn := fun _ => fun
  | [d] => { results := [.lit (.bool false)], args := [d] }
  | _ => none }
def FnExactIsGroundWrongFalsely : Prop := fnExactIsGroundRow.holds Try.pinned (OpenSpec.ofChange fnExactIsGroundWrong)

/- THE SECOND FORM. 'bulk': how many values and letters a reading holds, each counted each time it is reached (what is shared counts as often as it is met; a slice's spare places count too). A statement '..UptoSaid' is the law's where the arguments, and the package variables that the reading takes, are together of bulk at most 1048576: NARROWER than '..Said'. Prove '..Said' where nothing that the law and all that it calls make is longer than what came in: it says more and counts as full. Else prove '..UptoSaid'. A law counts once. -/
mutual
def uptoBulk {H : Type} : DataW H → Nat
  | .lit (.string bytes) => bytes.length + 1
  | .lit _ => 1
  | .nil => 1
  | .ptr d => uptoBulk d + 1
  | .slice elems spare => uptoBulkAll elems + uptoBulkAll spare + 1
  | .agg parts => uptoBulkAll parts + 1
  | .iface _ d => uptoBulk d + 1
  | .map entries => uptoBulkEntries entries + 1
  | .held _ => 1
def uptoBulkAll {H : Type} : List (DataW H) → Nat
  | [] => 0
  | d :: r => uptoBulk d + uptoBulkAll r
def uptoBulkEntries {H : Type} : List (Lit × DataW H) → Nat
  | [] => 0
  | x :: r => uptoBulkEntry x + uptoBulkEntries r
def uptoBulkEntry {H : Type} : Lit × DataW H → Nat
  | (.string bytes, d) => bytes.length + uptoBulk d + 1
  | (_, d) => uptoBulk d + 1
 end
def uptoSmall : (H : Type) → List (DataW H) → Bool := fun _ ds => decide (uptoBulkAll ds ≤ 1048576)
def OpenSpec.upto (s : _root_.Go.ChangeSpec) : _root_.Go.OpenSpec := { _root_.Go.OpenSpec.ofChange s with cond := some uptoSmall }

/-- 'laws.FnExactFindOp', WHERE WHAT IT READS IS OF BULK AT MOST 1048576: true; the input reads as it did. -/
def fnExactFindOpUptoRow : OpenClaim := { program := "ytejkkdnjdfehjaa", sum := "19505eb3351932b7a7b47d52c3e4b461fafb9ae667a9ae6ade9796cb65bca2e2", func := "loop.example/g03107/laws.FnExactFindOp", spec := "fnExactFindOp", apart := false, narrowed := true }
def FnExactFindOpUptoSaid : Prop := fnExactFindOpUptoRow.holds Try.pinned (OpenSpec.upto fnExactFindOpSpec)

/-- 'laws.FnExactArityOf', WHERE WHAT IT READS IS OF BULK AT MOST 1048576: true; the input reads as it did. -/
def fnExactArityOfUptoRow : OpenClaim := { program := "ytejkkdnjdfehjaa", sum := "19505eb3351932b7a7b47d52c3e4b461fafb9ae667a9ae6ade9796cb65bca2e2", func := "loop.example/g03107/laws.FnExactArityOf", spec := "fnExactArityOf", apart := false, narrowed := true }
def FnExactArityOfUptoSaid : Prop := fnExactArityOfUptoRow.holds Try.pinned (OpenSpec.upto fnExactArityOfSpec)

/-- 'laws.FnExactIsFreeSignature', WHERE WHAT IT READS IS OF BULK AT MOST 1048576: true; the input reads as it did. -/
def fnExactIsFreeSignatureUptoRow : OpenClaim := { program := "ytejkkdnjdfehjaa", sum := "19505eb3351932b7a7b47d52c3e4b461fafb9ae667a9ae6ade9796cb65bca2e2", func := "loop.example/g03107/laws.FnExactIsFreeSignature", spec := "fnExactIsFreeSignature", unfollowed := true, recurses := true, apart := false, narrowed := true }
def FnExactIsFreeSignatureUptoSaid : Prop := fnExactIsFreeSignatureUptoRow.holds Try.pinned (OpenSpec.upto fnExactIsFreeSignatureSpec)

/-- 'laws.FnExactIsGround', WHERE WHAT IT READS IS OF BULK AT MOST 1048576: true; the input reads as it did. -/
def fnExactIsGroundUptoRow : OpenClaim := { program := "ytejkkdnjdfehjaa", sum := "19505eb3351932b7a7b47d52c3e4b461fafb9ae667a9ae6ade9796cb65bca2e2", func := "loop.example/g03107/laws.FnExactIsGround", spec := "fnExactIsGround", unfollowed := true, recurses := true, loops := true, apart := false, narrowed := true }
def FnExactIsGroundUptoSaid : Prop := fnExactIsGroundUptoRow.holds Try.pinned (OpenSpec.upto fnExactIsGroundSpec)

end Rows
end Go.Proofs.Ytejkkdnjdfehjaa
