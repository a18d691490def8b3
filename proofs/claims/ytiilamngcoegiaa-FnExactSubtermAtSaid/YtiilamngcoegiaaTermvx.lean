/-
  CONTRACTS OF THE PROGRAM'S VariablesOf AND IsGround.
-/
import Derived.Test.YtiilamngcoegiaaTermcf
import Derived.Test.YtiilamngcoegiaaTermso
namespace Go.Proofs.Ytiilamngcoegiaa.termvx
open Go.ChangeShapes Go.WideShapes Go.ChangeAt Go.RowKit
open mem dec rowl trm trmv terml termb termt termx termz termro termsd termvr termcf termso

theorem flat_ext {V : List TermM} {xs : List Value} (hl : xs.length = V.length * 4) (h : ∀ j, j < V.length → Cells4 xs j (V.getD j default) (.slice none 0 0)) : xs = flatV V := by
  apply List.ext_getElem?
  intro p
  by_cases hp : p < V.length * 4
  · obtain ⟨a, b, c, d⟩ := h (p / 4) (by omega)
    obtain ⟨a', b', c', d'⟩ := flatV_at (l := V) (j := p / 4) (by omega)
    have hpm : p = p / 4 * 4 + p % 4 := by omega
    rw [hpm]
    match p % 4, (show p % 4 < 4 by omega) with
    | 0, _ => exact a.trans a'.symm
    | 1, _ => exact b.trans b'.symm
    | 2, _ => exact c.trans c'.symm
    | 3, _ => exact d.trans d'.symm
  · rw [List.getElem?_eq_none (by omega), List.getElem?_eq_none (by rw [flatV_len]; omega)]
def Flat (x : TermM) : Prop := x.args = [] ∧ Bnd x
/-- what the sort leaves of a row of variables -/
def SortPost (V : List TermM) (k g cap base : Nat) (w : World) (e : Ending) (w' : World) : Prop := e = .returned (.tuple #[]) ∧ ∃ V' : List TermM, V'.Perm V ∧ Srt V' ∧ w'.ownsRow base 40 4 (.slice (some ⟨g, 0, none⟩) k cap) k (flatV V') ∧ Chg [g] w w'
theorem own_mono {w : World} {base base' n : Nat} {e : TypeId} {size : Nat} {v : Value} {xs : List Value} (h : w.ownsRow base e size v n xs) (hb : base' ≤ base) : w.ownsRow base' e size v n xs := by
  refine ⟨h.1, ?_⟩
  rcases h.2 with h2 | ⟨g, cap, cur, hv, hg, r⟩
  · exact .inl h2
  · exact .inr ⟨g, cap, cur, hv, Nat.le_trans hb hg, r⟩
end Go.Proofs.Ytiilamngcoegiaa.termvx
