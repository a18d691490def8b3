/-
  THE EXACT LAWS OF SIGNATURES.
-/
import Derived.Test.YtjejdcehlckfhaaGreatSigz
import Derived.Test.YtjejdcehlckfhaaGreatSigc
import Derived.Test.YtjejdcehlckfhaaGreatSigu
import Derived.Test.YtjejdcehlckfhaaGreatSige
import Derived.Test.YtjejdcehlckfhaaGreatSigo
import Derived.Test.YtjejdcehlckfhaaGreatLaw
set_option maxRecDepth 100000
namespace Go.Proofs.YtjejdcehlckfhaaGreat.sigx
open Go.ChangeShapes Go.WideShapes Go.ChangeAt Go.RowKit
open mem split strl join subs sortn setm sets sortm sortp sorti sortf sortu sorts sortg rowl sigm sigs sigt sigu sige

/-- three cells of two blocks stay, whatever a call adds -/
theorem keep_33 {wr w0 w1 : World} {g g' : Nat} {a0 a1 a2 b0 b1 b2 : Value}
    (h : (w0.cell? ⟨g, 0, none⟩ = some a0 ∧ w0.cell? ⟨g, 1, none⟩ = some a1 ∧ w0.cell? ⟨g, 2, none⟩ = some a2 ∧ w0.cell? ⟨g', 0, none⟩ = some b0 ∧ w0.cell? ⟨g', 1, none⟩ = some b1 ∧ w0.cell? ⟨g', 2, none⟩ = some b2) ∧ Below wr.heap.size wr w0)
    (hp : g < wr.heap.size ∧ g' < wr.heap.size) (hb : Below w0.heap.size w0 w1) :
    (w1.cell? ⟨g, 0, none⟩ = some a0 ∧ w1.cell? ⟨g, 1, none⟩ = some a1 ∧ w1.cell? ⟨g, 2, none⟩ = some a2 ∧ w1.cell? ⟨g', 0, none⟩ = some b0 ∧ w1.cell? ⟨g', 1, none⟩ = some b1 ∧ w1.cell? ⟨g', 2, none⟩ = some b2) ∧ Below wr.heap.size wr w1 := by
  have hs := h.2.size
  have k : ∀ x, w1.cell? ⟨g, x, none⟩ = w0.cell? ⟨g, x, none⟩ := fun x => hb.cell (p := ⟨g, x, none⟩) (by show g < _; omega)
  have k' : ∀ x, w1.cell? ⟨g', x, none⟩ = w0.cell? ⟨g', x, none⟩ := fun x => hb.cell (p := ⟨g', x, none⟩) (by show g' < _; omega)
  rw [k, k, k, k', k', k']
  exact ⟨h.1, h.2.trans (hb.mono hs)⟩
end Go.Proofs.YtjejdcehlckfhaaGreat.sigx
