/-
  THE PROGRAM'S VariablesOf: what is called at the nodes.
-/
import Derived.Test.YtiilamngcoegiaaTermsd
namespace Go.Proofs.Ytiilamngcoegiaa.termvr
open Go.ChangeShapes Go.WideShapes Go.ChangeAt Go.RowKit
open mem dec rowl trm trmv terml termb termt termx termz termro termsd

/-- the cells of terms without arguments -/
def flatV : List TermM → List Value
  | [] => []
  | t :: l => .int .i64 t.op :: .string (bstr t.name) :: .int .i64 t.sort :: .slice none 0 0 :: flatV l
theorem flatV_len : ∀ l : List TermM, (flatV l).length = l.length * 4
  | [] => rfl
  | t :: l => by simp only [flatV, List.length_cons, flatV_len l]; omega
theorem flatV_append : ∀ l m : List TermM, flatV (l ++ m) = flatV l ++ flatV m
  | [], m => rfl
  | t :: l, m => by simp [flatV, flatV_append l m]
theorem flatV_at : ∀ {l : List TermM} {j : Nat}, j < l.length → Cells4 (flatV l) j (l.getD j default) (.slice none 0 0)
  | [], _, h => by simp at h
  | t :: l, 0, _ => ⟨rfl, rfl, rfl, rfl⟩
  | t :: l, j + 1, h => by
    obtain ⟨a, b, c, d⟩ := flatV_at (l := l) (j := j) (by simpa using h)
    rw [List.getD_cons_succ]
    unfold Cells4
    rw [show (j + 1) * 4 = j * 4 + 4 by omega]
    exact ⟨a, b, c, d⟩
theorem one4 (w : World) (a b c d : Value) (t : TypeId) : ∀ (j : Nat) (x : Value), [a, b, c, d][j]? = some x → (w.alloc (.cells #[a, b, c, d] t)).cell? ((⟨w.heap.size, 0, none⟩ : Addr).add j) = some x := by
  intro j x hj
  match j, hj with
  | 0, hj => simp at hj; subst hj; simp [Addr.add]
  | 1, hj => simp at hj; subst hj; simp [Addr.add]
  | 2, hj => simp at hj; subst hj; simp [Addr.add]
  | 3, hj => simp at hj; subst hj; simp [Addr.add]
theorem at4 (w : World) (a b c d : Value) (t : TypeId) (z : Nat) (h : z = w.heap.size) : ∀ (j : Nat) (x : Value), [a, b, c, d][j]? = some x → (w.alloc (.cells #[a, b, c, d] t)).cell? ((⟨z, 0, none⟩ : Addr).add j) = some x := by
  subst h; exact one4 w a b c d t
theorem at4b (W : World) {w1 : World} (a b c d : Value) (t : TypeId) (z : Nat) (h : z = W.heap.size) (hb : Below (W.alloc (.cells #[a, b, c, d] t)).drew.heap.size (W.alloc (.cells #[a, b, c, d] t)).drew w1) : ∀ (j : Nat) (x : Value), [a, b, c, d][j]? = some x → w1.cell? ((⟨z, 0, none⟩ : Addr).add j) = some x := by
  intro j x hx
  have h1 := at4 W a b c d t z h j x hx
  rw [Addr.add_lit] at h1 ⊢
  exact (hb.cell (p := ⟨z, 0 + j, none⟩) (by subst h; simp)).trans h1
theorem four_one {a b c d : Value} (h : a.oneCell' = true) (h1 : b.oneCell' = true) (h2 : c.oneCell' = true) (h3 : d.oneCell' = true) : ∀ x ∈ [a, b, c, d], x.oneCell' = true := by
  intro x hx
  simp at hx
  rcases hx with rfl | rfl | rfl | rfl
  · exact h
  · exact h1
  · exact h2
  · exact h3
end Go.Proofs.Ytiilamngcoegiaa.termvr
