/-
  Termso, Termvx, Termin, merged.
-/
import Derived.Test.YtkkmjaggebjcbaaGreatTermsl
import Derived.Test.YtkkmjaggebjcbaaGreatPk05
import Derived.Sort.OwnSorted
import Derived.Test.YtkkmjaggebjcbaaGreatPk07
import Derived.Deep.RegionLaw
/-
 THE LIBRARY'S SORT AT A ROW OF TERMS OF ONE'S OWN.
-/
namespace Go.Proofs.YtkkmjaggebjcbaaGreat.termso
open Go.ChangeShapes Go.WideShapes Go.ChangeAt Go.RowKit
open mem dec rowl trm trmv terml termb termt termx

/-- what the sort leaves of a block of cells -/
theorem heap_put {w : World} {g n : Nat} {os : Array Obj} {cur : Array Value} {e : TypeId} {fr : Nat × Nat} (F : Array Value) (hb : w.heap[g]? = some (.cells cur e fr)) :
  (Sort.grow (Sort.putRow id (Sort.ahead w n) g 0 F) os).heap[g]? = some (.cells (Sort.putCells id 0 F cur) e fr) := by
 have hg : g < w.heap.size := (Array.getElem?_eq_some_iff.1 hb).1
 show ((Sort.putRow id (Sort.ahead w n) g 0 F).heap ++ os)[g]? = _
 rw [Array.getElem?_append_left (by simpa using hg)]
 simp [Sort.putRow, Sort.mapBlock, Sort.ahead, Array.getElem?_modify, hb, Sort.onCells]
theorem grown_put {w : World} {g n : Nat} {os : Array Obj} (F : Array Value) : Chg [g] w (Sort.grow (Sort.putRow id (Sort.ahead w n) g 0 F) os) := by
 refine ⟨rfl, rfl, rfl, by simp, fun k hk hne => ?_⟩
 show ((Sort.putRow id (Sort.ahead w n) g 0 F).heap ++ os)[k]? = _
 rw [Array.getElem?_append_left (by simpa using hk)]
 have : g ≠ k := fun e => hne (by rw [e]; simp)
 simp [Sort.putRow, Sort.mapBlock, Sort.ahead, Array.getElem?_modify, this]
theorem take_put (cur F : Array Value) (h : F.size ≤ cur.size) : (Sort.putCells id 0 F cur).toList.take F.size = F.toList := by
 apply List.ext_getElem?
 intro j
 by_cases hj : j < F.size
 ·rw [List.getElem?_take_of_lt hj, Array.getElem?_toList]
  simp [Sort.putCells, hj, show j < cur.size by omega]
 ·rw [List.getElem?_take_eq_none (by omega), List.getElem?_eq_none (by simp; omega)]
/-- an element: a term and the value that its arguments stand by -/
structure Elt (N lo : Nat) (w : World) where
 t : TermM
 v : Value
 h : HasTs N lo w v t.args
 b : Bnd t
 s : sizes t.args ≤ 2097152
instance (N lo : Nat) (w : World) : Inhabited (Elt N lo w) := ⟨⟨.mk 0 [] 0 [], .slice none 0 0, HasR.nil _ _ _ (by unfold maxLen; omega) _, ⟨by show ([] : List UInt8).length ≤ _; simp, by show I64 0; unfold I64; omega, by show I64 0; unfold I64; omega⟩, by show sizes [] ≤ _; simp [sizes]⟩⟩
def encT {N lo : Nat} {w : World} (x : Elt N lo w) : List Value := [.int .i64 x.t.op, .string (bstr x.t.name), .int .i64 x.t.sort, x.v]
noncomputable def cfT {N lo : Nat} {w : World} (x y : Elt N lo w) : Int := cmp x.t y.t
theorem swoT (N lo : Nat) (w : World) : Sort.SWO (ltOf (cfT (N := N) (lo := lo) (w := w))) where
 irrefl x := decide_eq_false (by rw [cfT, cmp_self]; omega)
 trans x y z h1 h2 := by
  have h1' : cmp x.t y.t < 0 := of_decide_eq_true h1
  have h2' : cmp y.t z.t < 0 := of_decide_eq_true h2
  exact decide_eq_true (cmp_lt_trans h1' h2')
 ntrans x y z h1 h2 := by
  have h1' : ¬ cmp x.t y.t < 0 := of_decide_eq_false h1
  have h2' : ¬ cmp y.t z.t < 0 := of_decide_eq_false h2
  have a := cmp_swap x.t y.t
  have b := cmp_swap y.t z.t
  have c := cmp_swap x.t z.t
  have d := cmp_trans z.t y.t x.t (by omega) (by omega)
  exact decide_eq_false (by rw [cfT]; omega)
end Go.Proofs.YtkkmjaggebjcbaaGreat.termso
/-
 CONTRACTS OF THE PROGRAM'S VariablesOf AND IsGround.
-/
namespace Go.Proofs.YtkkmjaggebjcbaaGreat.termvx
open Go.ChangeShapes Go.WideShapes Go.ChangeAt Go.RowKit
open mem dec rowl trm trmv terml termb termt termx termz termro termsd termvr termcf termso

theorem own_mono {w : World} {base base' n : Nat} {e : TypeId} {size : Nat} {v : Value} {xs : List Value} (h : w.ownsRow base e size v n xs) (hb : base' ≤ base) : w.ownsRow base' e size v n xs := by
 refine ⟨h.1, ?_⟩
 rcases h.2 with h2 | ⟨g, cap, cur, hv, hg, r⟩
 ·exact .inl h2
 ·exact .inr ⟨g, cap, cur, hv, Nat.le_trans hb hg, r⟩
end Go.Proofs.YtkkmjaggebjcbaaGreat.termvx
/-
 CONTRACTS OF THE MODEL'S l5Var, l5Insert, l5Collect, VariablesOf, IsGround.
-/
namespace Go.Proofs.YtkkmjaggebjcbaaGreat.termin
open Go.ChangeShapes Go.WideShapes Go.ChangeAt Go.RowKit
open mem dec rowl trm trmv terml termb termt termu termv termvo termx termz termro termsd termvr termcf termso termvx

theorem var_any (l : List UInt8) (s : Int) (w : World) : Calls Tryz.prog 140 #[.string (bstr l), .int .i64 s] w fun e w' => e = .returned (.agg #[.int .i64 (-1), .string (bstr l), .int .i64 s, .slice none 0 0]) ∧ Below w.heap.size w w' := by
 go_enter Tryz.func140, Tryz.ntmps140
 go_wp2
 refine bodyPost_ret (v := .agg #[.int .i64 (-1), .string (bstr l), .int .i64 s, .slice none 0 0]) (by simp [results, Tryz.results140, go_sem]) rfl ⟨rfl, ?_⟩
 repeat (first | (refine Below.setCell ?_ (by first | (simp; done) | (simp; omega)) _) | (refine Below.alloc ?_ (by first | (simp; done) | (simp; omega)) _))
 exact Below.refl _ _
abbrev S4 (W : World) (x : Nat) (a : Int) (l : List UInt8) (s : Int) (w' : World) : Prop := (w'.cell? ⟨x, 0, none⟩ = some (.int .i64 a) ∧ w'.cell? ⟨x, 1, none⟩ = some (.string (bstr l)) ∧ w'.cell? ⟨x, 2, none⟩ = some (.int .i64 s) ∧ w'.cell? ⟨x, 3, none⟩ = some (.slice none 0 0)) ∧ Below W.heap.size W w'
theorem S4.next {W w0 w1 : World} {x : Nat} {a : Int} {l : List UInt8} {s : Int} (h : S4 W x a l s w0) (hx : x < W.heap.size) (hb : Below W.heap.size w0 w1) : S4 W x a l s w1 := by
 have k : ∀ y, w1.cell? ⟨x, y, none⟩ = w0.cell? ⟨x, y, none⟩ := fun y => hb.cell (p := ⟨x, y, none⟩) hx
 unfold S4
 rw [k, k, k, k]
 exact ⟨h.1, h.2.trans hb⟩
theorem S4.al {W w0 : World} {x : Nat} {a : Int} {l : List UInt8} {s : Int} (h : S4 W x a l s w0) (hx : x < W.heap.size) {o : Obj} : S4 W x a l s (w0.alloc o) := h.next hx ((Below.refl _ _).alloc h.2.size _)
theorem S4.ald {W w0 : World} {x : Nat} {a : Int} {l : List UInt8} {s : Int} (h : S4 W x a l s w0.drew) (hx : x < W.heap.size) {o : Obj} : S4 W x a l s (w0.alloc o).drew := h.next hx ((Below.refl _ w0.drew).alloc h.2.size o)
theorem S4.grown {W w0 w1 : World} {x g : Nat} {a : Int} {l : List UInt8} {s : Int} (h : S4 W x a l s w0) (hx : x < W.heap.size) (hg : w0.grownBy w1 (some g)) (hgW : W.heap.size ≤ g) : S4 W x a l s w1 :=
 h.next hx ((Below.refl _ _).grown hg h.2.size (by intro k hk; cases hk; exact hgW))
end Go.Proofs.YtkkmjaggebjcbaaGreat.termin
