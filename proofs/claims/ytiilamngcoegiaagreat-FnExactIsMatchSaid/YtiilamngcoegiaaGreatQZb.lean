/- what the proofs use often -/
import Derived.Below
namespace Go.Proofs.YtiilamngcoegiaaGreat
open Go.RowKit
theorem b_ {B : Nat} {w : World} : Below B w w := Below.refl B w
theorem fr1_ {w y : World} {O : Obj} (h : y = w.alloc O) : Below w.heap.size w y := by rw [h]; exact (Below.refl _ _).alloc (Nat.le_refl _) _
theorem fr2_ {w y : World} {cs : Array Value} {T : TypeId} (h : y = w.alloc (.cells cs T)) : y.heap[w.heap.size]? = some (.cells cs T (0, 0)) := by rw [h]; show (w.heap.push _)[w.heap.size]? = _; simp
theorem fr3_ {w y : World} {O : Obj} (h : y = w.alloc O) : y.heap.size = w.heap.size + 1 := by rw [h]; simp
theorem v_ {p : Prop} (h : p := by (repeat (first | exact Below.refl _ _ | refine Below.alloc ?_ (by first | (simp; done) | (simp; omega)) _))) : p := h
end Go.Proofs.YtiilamngcoegiaaGreat
