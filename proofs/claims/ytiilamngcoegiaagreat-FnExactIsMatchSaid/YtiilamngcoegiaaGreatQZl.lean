/- what the proofs use often -/
import Derived.Lib.Hide
namespace Go.Proofs.YtiilamngcoegiaaGreat
theorem z_ {p : Prop} (h : p) : Go.RowKit.Hid p := Go.Lib.hid h
end Go.Proofs.YtiilamngcoegiaaGreat
