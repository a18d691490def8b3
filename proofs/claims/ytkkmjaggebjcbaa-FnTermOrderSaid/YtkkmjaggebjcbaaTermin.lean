/-
  CONTRACTS OF THE MODEL'S l5Var, l5Insert, l5Collect, VariablesOf, IsGround.
-/
import Derived.Test.YtkkmjaggebjcbaaTermvx
import Derived.Test.YtkkmjaggebjcbaaTermvo
import Derived.Deep.RegionLaw
namespace Go.Proofs.Ytkkmjaggebjcbaa.termin
open Go.ChangeShapes Go.WideShapes Go.ChangeAt Go.RowKit
open mem dec rowl trm trmv terml termb termt termu termv termvo termx termz termro termsd termvr termcf termso termvx

theorem var_any (l : List UInt8) (s : Int) (w : World) : Calls Try.prog 31 #[.string (bstr l), .int .i64 s] w fun e w' => e = .returned (.agg #[.int .i64 (-1), .string (bstr l), .int .i64 s, .slice none 0 0]) ∧ Below w.heap.size w w' := by
  go_enter Try.func31, Try.ntmps31
  go_wp2
  refine bodyPost_ret (v := .agg #[.int .i64 (-1), .string (bstr l), .int .i64 s, .slice none 0 0]) (by simp [results, Try.results31, go_sem]) rfl ⟨rfl, ?_⟩
  repeat (first | (refine Below.setCell ?_ (by first | (simp; done) | (simp; omega)) _) | (refine Below.alloc ?_ (by first | (simp; done) | (simp; omega)) _))
  exact Below.refl _ _
/-- a row of these terms without arguments, in a block of its own at or above b -/
def RowPost (b : Nat) (L : List TermM) (w : World) (e : Ending) (w' : World) : Prop := ∃ g cap m, m = L.length ∧ e = .returned (.slice (some ⟨g, 0, none⟩) m cap) ∧ w'.ownsRow b 26 4 (.slice (some ⟨g, 0, none⟩) m cap) m (flatV L) ∧ Below w.heap.size w w'
abbrev S4 (W : World) (x : Nat) (a : Int) (l : List UInt8) (s : Int) (w' : World) : Prop := (w'.cell? ⟨x, 0, none⟩ = some (.int .i64 a) ∧ w'.cell? ⟨x, 1, none⟩ = some (.string (bstr l)) ∧ w'.cell? ⟨x, 2, none⟩ = some (.int .i64 s) ∧ w'.cell? ⟨x, 3, none⟩ = some (.slice none 0 0)) ∧ Below W.heap.size W w'
theorem S4.next {W w0 w1 : World} {x : Nat} {a : Int} {l : List UInt8} {s : Int} (h : S4 W x a l s w0) (hx : x < W.heap.size) (hb : Below W.heap.size w0 w1) : S4 W x a l s w1 := by
  have k : ∀ y, w1.cell? ⟨x, y, none⟩ = w0.cell? ⟨x, y, none⟩ := fun y => hb.cell (p := ⟨x, y, none⟩) hx
  unfold S4
  rw [k, k, k, k]
  exact ⟨h.1, h.2.trans hb⟩
theorem S4.al {W w0 : World} {x : Nat} {a : Int} {l : List UInt8} {s : Int} (h : S4 W x a l s w0) (hx : x < W.heap.size) {o : Obj} : S4 W x a l s (w0.alloc o) := h.next hx ((Below.refl _ _).alloc h.2.size _)
theorem S4.ald {W w0 : World} {x : Nat} {a : Int} {l : List UInt8} {s : Int} (h : S4 W x a l s w0.drew) (hx : x < W.heap.size) {o : Obj} : S4 W x a l s (w0.alloc o).drew := h.next hx ((Below.refl _ w0.drew).alloc h.2.size o)
theorem fresh_a (w : World) : (w.alloc (.cells #[] 26)).drew.ownsRow w.heap.size 26 4 (.slice (some ⟨w.heap.size, 0, none⟩) 0 0) 0 [] := World.ownsRow_lit (e := 26) (size := 4) w.drew #[] 0 (Nat.le_refl _) (by unfold maxLen; omega) rfl
theorem fresh_b (w : World) (o : Obj) : ((w.alloc (.cells #[] 26)).alloc o).drew.ownsRow w.heap.size 26 4 (.slice (some ⟨w.heap.size, 0, none⟩) 0 0) 0 [] := own_below (fresh_a w) ((Below.refl _ (w.alloc (.cells #[] 26)).drew).alloc (Nat.le_refl _) o)
theorem fresh_c (w : World) (o : Obj) : ((w.alloc o).alloc (.cells #[] 26)).drew.ownsRow w.heap.size 26 4 (.slice (some ⟨w.heap.size + 1, 0, none⟩) 0 0) 0 [] := by
  have h := fresh_a (w.alloc o)
  rw [show (w.alloc o).heap.size = w.heap.size + 1 by simp] at h
  exact own_mono h (by omega)
/-- the first k of a row, as a source -/
theorem src_take {w w' : World} {b n g cap k : Nat} {L : List TermM} (h : w.ownsRow b 26 4 (.slice (some ⟨g, 0, none⟩) n cap) n (flatV L)) (hk : k ≤ n) (hb : Below w.heap.size w w') : ∀ (j : Nat) (x : Value), (flatV (L.take k))[j]? = some x → w'.cell? ((⟨g, 0, none⟩ : Addr).add j) = some x := by
  intro j x hx
  rw [← flatV_take] at hx
  have hlt : j < k * 4 := by have := (List.getElem?_eq_some_iff.1 hx).1; rw [List.length_take] at this; omega
  rw [List.getElem?_take_of_lt hlt] at hx
  have := (own_below h hb).cellAt j (by omega)
  rw [hx] at this
  rw [Addr.add_lit, Nat.zero_add]
  exact this
theorem flatV_drop : ∀ (L : List TermM) (k : Nat), flatV (L.drop k) = (flatV L).drop (k * 4)
  | [], k => by simp [flatV]
  | a :: l, 0 => by simp
  | a :: l, k + 1 => by rw [List.drop_succ_cons, flatV_drop l k, flatV, show (k + 1) * 4 = k * 4 + 4 by omega]; rfl
/-- from the k-th on, as a source -/
theorem src_drop {w w' : World} {b n g cap k : Nat} {L : List TermM} (h : w.ownsRow b 26 4 (.slice (some ⟨g, 0, none⟩) n cap) n (flatV L)) (hn : n = L.length) (hb : Below w.heap.size w w') : ∀ (j : Nat) (x : Value), (flatV (L.drop k))[j]? = some x → w'.cell? ((⟨g, k * 4, none⟩ : Addr).add j) = some x := by
  intro j x hx
  rw [flatV_drop, List.getElem?_drop] at hx
  have hlt : k * 4 + j < n * 4 := by have := (List.getElem?_eq_some_iff.1 hx).1; rw [flatV_len] at this; omega
  have := (own_below h hb).cellAt (k * 4 + j) hlt
  rw [hx] at this
  rw [Addr.add_lit]
  exact this
theorem flat_one (l : List TermM) : ∀ x ∈ flatV l, x.oneCell' = true := by
  induction l with
  | nil => intro x hx; simp [flatV] at hx
  | cons a l ih =>
    intro x hx
    simp only [flatV, List.mem_cons] at hx
    rcases hx with rfl | rfl | rfl | rfl | hx
    · rfl
    · rfl
    · rfl
    · rfl
    · exact ih x hx
theorem src_b {W w4 : World} {a b c d : Value} (h : ((W.alloc (.cells #[] 26)).alloc (.cells #[a, b, c, d] 26)).drew.grownBy w4 (some W.heap.size)) : ∀ (j : Nat) (x : Value), [a, b, c, d][j]? = some x → w4.cell? ((⟨W.heap.size + 1, 0, none⟩ : Addr).add j) = some x := by
  intro j x hj
  have h1 := at4 (W.alloc (.cells #[] 26)) a b c d 26 (W.heap.size + 1) (by simp) j x hj
  rw [Addr.add_lit, Nat.zero_add] at h1 ⊢
  exact (h.cell_far ⟨W.heap.size + 1, j, none⟩ (by simp) (by show some (W.heap.size + 1) ≠ some W.heap.size; intro e; injection e; omega)).trans h1
theorem src_c {W w4 : World} {a b c d : Value} (h : ((W.alloc (.cells #[a, b, c, d] 26)).alloc (.cells #[] 26)).drew.grownBy w4 (some (W.heap.size + 1))) : ∀ (j : Nat) (x : Value), [a, b, c, d][j]? = some x → w4.cell? ((⟨W.heap.size, 0, none⟩ : Addr).add j) = some x := by
  intro j x hj
  have h1 := one4 W a b c d 26 j x hj
  rw [Addr.add_lit, Nat.zero_add] at h1 ⊢
  have h2 := ((Below.refl (W.alloc (.cells #[a, b, c, d] 26)).heap.size (W.alloc (.cells #[a, b, c, d] 26))).alloc (Nat.le_refl _) (.cells #[] 26)).cell (p := ⟨W.heap.size, j, none⟩) (by simp)
  exact (h.cell_far ⟨W.heap.size, j, none⟩ (by simp; omega) (by show some W.heap.size ≠ some (W.heap.size + 1); intro e; injection e; omega)).trans (h2.trans h1)
theorem S4.grown {W w0 w1 : World} {x g : Nat} {a : Int} {l : List UInt8} {s : Int} (h : S4 W x a l s w0) (hx : x < W.heap.size) (hg : w0.grownBy w1 (some g)) (hgW : W.heap.size ≤ g) : S4 W x a l s w1 :=
  h.next hx ((Below.refl _ _).grown hg h.2.size (by intro k hk; cases hk; exact hgW))
end Go.Proofs.Ytkkmjaggebjcbaa.termin
