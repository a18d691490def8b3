
import Derived.Test.YtiilamngcoegiaaGreatRows
namespace Go.Proofs.YtiilamngcoegiaaGreat.dec
end Go.Proofs.YtiilamngcoegiaaGreat.dec
