/-
  CONTRACTS OF THE PROGRAM'S SizeOfTerm AND DepthOfTerm.
-/
import Derived.Test.YtiilamngcoegiaaTermro
import Derived.Shelf.Abstract
namespace Go.Proofs.Ytiilamngcoegiaa.termsd
open Go.ChangeShapes Go.WideShapes Go.ChangeAt Go.RowKit
open mem dec rowl trm trmv terml termb termt termx termz termro

theorem same_cell {w w' : World} {g o : Nat} {v : Value} (h : w.cell? ⟨g, o, none⟩ = some v) (hb : w'.heap[g]? = w.heap[g]?) : w'.cell? ⟨g, o, none⟩ = some v := (World.cell?_of_block (a := ⟨g, o, none⟩) hb).trans h
theorem same_frozen {w w' : World} {g o : Nat} (h : w.frozen? ⟨g, o, none⟩ = false) (hb : w'.heap[g]? = w.heap[g]?) : w'.frozen? ⟨g, o, none⟩ = false := (World.frozen?_of_block (a := ⟨g, o, none⟩) hb).trans h
/-- a state of one cell -/
def OneJ (c : Nat) (f : Pend → Value → Prop) (T : Pend) (F : List Nat) (w : World) : Prop := F = [c] ∧ ∃ v, f T v ∧ w.cell? ⟨c, 0, none⟩ = some v ∧ w.frozen? ⟨c, 0, none⟩ = false
theorem oneJ_state (c : Nat) (f : Pend → Value → Prop) : ROState (OneJ c f) where
  same := by
    rintro T F w w' ⟨rfl, v, h1, h2, h3⟩ hs
    have hb := hs c (by simp)
    exact ⟨rfl, v, h1, same_cell h2 hb, same_frozen h3 hb⟩
  lt := by
    rintro T F w ⟨rfl, v, h1, h2, h3⟩ k hk
    simp at hk
    subst hk
    exact block_lt_of_cell h2
/-- the root of a term that is boxed -/
theorem root_ok {N lo : Nat} {w W : World} {t : TermM} {v : Value} {g : Nat} (h : HasTs N lo w v t.args) (hb : Below w.heap.size w W) (hg : g < W.heap.size) (hB : Bnd t) (hd : 1 + depth t ≤ 1073741824)
    (c0 : W.cell? ⟨g, 0, none⟩ = some (.int .i64 t.op)) (c1 : W.cell? ⟨g, 1, none⟩ = some (.string (bstr t.name))) (c2 : W.cell? ⟨g, 2, none⟩ = some (.int .i64 t.sort)) (c3 : W.cell? ⟨g, 3, none⟩ = some v) : EntOk N lo W (g, 0, 1) (t, 1) :=
  ⟨rfl, hd, hg, c0, c1, c2, v, c3, h.below (Nat.le_refl _) hb, hB⟩
theorem depth_le (t : TermM) : depth t ≤ size t := by
  have key : ∀ t, depth t ≤ size t := by
    refine TermM.ind (fun o n s l ih => ?_)
    rw [depth_mk, size_mk]
    have : depths l ≤ sizes l := by
      induction l with
      | nil => simp [depths]
      | cons a l ih2 =>
        have h1 := ih a (by simp)
        have h2 := ih2 (fun t ht => ih t (by simp [ht]))
        have e : depths (a :: l) = max (depth a) (depths l) := rfl
        rw [e]
        simp only [sizes, List.map_cons, List.sum_cons] at h2 ⊢
        omega
    omega
  exact key t
theorem bump {w : World} {c : Nat} {v : Value} (h : w.cell? ⟨c, 0, none⟩ = some v) (hf : w.frozen? ⟨c, 0, none⟩ = false) (u : Value) (o : Obj) :
    Chg [c] w ((w.setCell ⟨c, 0, none⟩ u).alloc o) ∧ ((w.setCell ⟨c, 0, none⟩ u).alloc o).cell? ⟨c, 0, none⟩ = some u ∧ ((w.setCell ⟨c, 0, none⟩ u).alloc o).frozen? ⟨c, 0, none⟩ = false := by
  have hc := block_lt_of_cell h
  simp only [] at hc
  have hb : Below (w.setCell ⟨c, 0, none⟩ u).heap.size (w.setCell ⟨c, 0, none⟩ u) ((w.setCell ⟨c, 0, none⟩ u).alloc o) := (Below.refl _ _).alloc (Nat.le_refl _) _
  have hs : c < (w.setCell ⟨c, 0, none⟩ u).heap.size := by simpa [World.setCell] using hc
  refine ⟨(Chg.set (by simp) _).trans (Chg.of_below hb), (hb.cell (p := ⟨c, 0, none⟩) hs).trans (World.cell?_setCell_same _ _ _ h), (hb.frozen (p := ⟨c, 0, none⟩) hs).trans ?_⟩
  rw [World.frozen?_setCell]; exact hf
end Go.Proofs.Ytiilamngcoegiaa.termsd
