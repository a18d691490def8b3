/- what the proofs use often -/
import Derived.KernelRfl
namespace Go.Proofs.YtiilamngcoegiaaGreat
theorem k_ {p : Prop} (h : p := by kernel_rfl) : p := h
end Go.Proofs.YtiilamngcoegiaaGreat
