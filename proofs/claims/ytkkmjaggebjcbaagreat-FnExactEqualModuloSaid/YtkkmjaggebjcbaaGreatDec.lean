/-
 PLAIN MATHEMATICS OF DECIMAL FORMS: no program.
-/
import Derived.Test.YtkkmjaggebjcbaaGreatRows
namespace Go.Proofs.YtkkmjaggebjcbaaGreat.dec

end Go.Proofs.YtkkmjaggebjcbaaGreat.dec
