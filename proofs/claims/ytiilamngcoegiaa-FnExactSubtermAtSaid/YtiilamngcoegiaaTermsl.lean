/-
  THE LIBRARY'S SORT AT TERMS: where its functions and types lie in this program, in plain words.
-/
import Derived.Shelf.SlSortCmp.WholeK
import Derived.Test.YtiilamngcoegiaaRows
namespace Go.Proofs.Ytiilamngcoegiaa.termsl
open Go.Shelf
end Go.Proofs.Ytiilamngcoegiaa.termsl
