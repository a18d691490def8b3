/-
  THE LIBRARY'S SORT AT A ROW OF TERMS OF ONE'S OWN.
-/
import Derived.Test.YtiilamngcoegiaaTermsl
import Derived.Test.YtiilamngcoegiaaTermx
import Derived.Sort.OwnSorted
namespace Go.Proofs.Ytiilamngcoegiaa.termso
open Go.ChangeShapes Go.WideShapes Go.ChangeAt Go.RowKit
open mem dec rowl trm trmv terml termb termt termx

/-- what the sort leaves of a block of cells -/
theorem heap_put {w : World} {g n : Nat} {os : Array Obj} {cur : Array Value} {e : TypeId} {fr : Nat × Nat} (F : Array Value) (hb : w.heap[g]? = some (.cells cur e fr)) :
    (Sort.grow (Sort.putRow id (Sort.ahead w n) g 0 F) os).heap[g]? = some (.cells (Sort.putCells id 0 F cur) e fr) := by
  have hg : g < w.heap.size := (Array.getElem?_eq_some_iff.1 hb).1
  show ((Sort.putRow id (Sort.ahead w n) g 0 F).heap ++ os)[g]? = _
  rw [Array.getElem?_append_left (by simpa using hg)]
  simp [Sort.putRow, Sort.mapBlock, Sort.ahead, Array.getElem?_modify, hb, Sort.onCells]
theorem grown_put {w : World} {g n : Nat} {os : Array Obj} (F : Array Value) : Chg [g] w (Sort.grow (Sort.putRow id (Sort.ahead w n) g 0 F) os) := by
  refine ⟨rfl, rfl, rfl, by simp, fun k hk hne => ?_⟩
  show ((Sort.putRow id (Sort.ahead w n) g 0 F).heap ++ os)[k]? = _
  rw [Array.getElem?_append_left (by simpa using hk)]
  have : g ≠ k := fun e => hne (by rw [e]; simp)
  simp [Sort.putRow, Sort.mapBlock, Sort.ahead, Array.getElem?_modify, this]
theorem take_put (cur F : Array Value) (h : F.size ≤ cur.size) : (Sort.putCells id 0 F cur).toList.take F.size = F.toList := by
  apply List.ext_getElem?
  intro j
  by_cases hj : j < F.size
  · rw [List.getElem?_take_of_lt hj, Array.getElem?_toList]
    simp [Sort.putCells, hj, show j < cur.size by omega]
  · rw [List.getElem?_take_eq_none (by omega), List.getElem?_eq_none (by simp; omega)]
/-- an element: a term and the value that its arguments stand by -/
structure Elt (N lo : Nat) (w : World) where
  t : TermM
  v : Value
  h : HasTs N lo w v t.args
  b : Bnd t
  s : sizes t.args ≤ 2097152
instance (N lo : Nat) (w : World) : Inhabited (Elt N lo w) := ⟨⟨.mk 0 [] 0 [], .slice none 0 0, HasR.nil _ _ _ (by unfold maxLen; omega) _, ⟨by show ([] : List UInt8).length ≤ _; simp, by show I64 0; unfold I64; omega, by show I64 0; unfold I64; omega⟩, by show sizes [] ≤ _; simp [sizes]⟩⟩
def encT {N lo : Nat} {w : World} (x : Elt N lo w) : List Value := [.int .i64 x.t.op, .string (bstr x.t.name), .int .i64 x.t.sort, x.v]
noncomputable def cfT {N lo : Nat} {w : World} (x y : Elt N lo w) : Int := cmp x.t y.t
theorem swoT (N lo : Nat) (w : World) : Sort.SWO (ltOf (cfT (N := N) (lo := lo) (w := w))) where
  irrefl x := decide_eq_false (by rw [cfT, cmp_self]; omega)
  trans x y z h1 h2 := by
    have h1' : cmp x.t y.t < 0 := of_decide_eq_true h1
    have h2' : cmp y.t z.t < 0 := of_decide_eq_true h2
    exact decide_eq_true (cmp_lt_trans h1' h2')
  ntrans x y z h1 h2 := by
    have h1' : ¬ cmp x.t y.t < 0 := of_decide_eq_false h1
    have h2' : ¬ cmp y.t z.t < 0 := of_decide_eq_false h2
    have a := cmp_swap x.t y.t
    have b := cmp_swap y.t z.t
    have c := cmp_swap x.t z.t
    have d := cmp_trans z.t y.t x.t (by omega) (by omega)
    exact decide_eq_false (by rw [cfT]; omega)
end Go.Proofs.Ytiilamngcoegiaa.termso
