/-
  THE METHODS OF AN OPERATOR WITH ITS SHAPE.
-/
import Derived.Test.YtpieiahonnneeaaGram
import Derived.Test.YtpieiahonnneeaaGa
namespace Go.Proofs.Ytpieiahonnneeaa.gramo
open Go.ChangeShapes Go.WideShapes Go.ChangeAt Go.RowKit
open mem dec rowl trm trmv terml termb termt termx sigi gram

abbrev aggE (nm : List UInt8) (A : Option Addr) (n c : Nat) (a b : Bool) (u : Int) (i s0 s1 s2 s3 s4 : Nat) : Value := .agg #[.string (bstr nm), .slice A n c, .bool a, .bool b, .int .i64 u, .int .i64 (i : Int), .int .i64 (s0 : Int), .int .u16 (s1 : Int), .int .u16 (s2 : Int), .int .u16 (s3 : Int), .int .u16 (s4 : Int)]
/-- the kind at a place -/
def kAtS (a : Bool) (s : Shp) (k : Nat) : Nat := if a then s.2.1 else match k with | 0 => s.2.1 | 1 => s.2.2.1 | _ => s.2.2.2.1
end Go.Proofs.Ytpieiahonnneeaa.gramo
