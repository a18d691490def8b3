/-
  ROWS OF STRUCTS IN MEMORY, over any program: a slice of k-cell elements, each of which reads as an element of a list; all that it reaches lies at or above a bound.
-/
import Derived.Test.YtiilamngcoegiaaMem
namespace Go.Proofs.Ytiilamngcoegiaa.rowl
open Go.ChangeShapes Go.WideShapes Go.ChangeAt Go.RowKit
open mem

def I64 (x : Int) : Prop := -9223372036854775808 ≤ x ∧ x ≤ 9223372036854775807
/-- nothing at or above the bound has changed -/
def Kept (lo : Nat) (w w' : World) : Prop := w.heap.size ≤ w'.heap.size ∧ ∀ k, lo ≤ k → k < w.heap.size → w'.heap[k]? = w.heap[k]?
theorem Kept.refl (lo : Nat) (w : World) : Kept lo w w := ⟨Nat.le_refl _, fun _ _ _ => rfl⟩
theorem Kept.trans {lo : Nat} {w w' w'' : World} (h : Kept lo w w') (h' : Kept lo w' w'') : Kept lo w w'' :=
  ⟨Nat.le_trans h.1 h'.1, fun k hk hlt => (h'.2 k hk (Nat.lt_of_lt_of_le hlt h.1)).trans (h.2 k hk hlt)⟩
theorem Kept.mono {lo lo' : Nat} {w w' : World} (h : Kept lo w w') (hl : lo ≤ lo') : Kept lo' w w' := ⟨h.1, fun k hk => h.2 k (Nat.le_trans hl hk)⟩
theorem Kept.below {lo B : Nat} {w w' : World} (hb : Below B w w') (hB : w.heap.size ≤ B) : Kept lo w w' := ⟨hb.size, fun k _ hlt => hb.block k (Nat.lt_of_lt_of_le hlt hB)⟩
theorem Kept.set {lo : Nat} {w : World} {p : Addr} (hp : p.block < lo) (u : Value) : Kept lo w (w.setCell p u) :=
  ⟨by simp [World.setCell], fun k hk _ => Below.heap_setCell w p u k (by omega)⟩
theorem Kept.grown {lo g : Nat} {w w' : World} (h : w.grownBy w' (some g)) (hg : g < lo) : Kept lo w w' := ⟨h.size, fun k hk hlt => h.block k hlt (fun e => by injection e; omega)⟩
theorem Kept.cell {lo : Nat} {w w' : World} (h : Kept lo w w') {g o : Nat} (hg : lo ≤ g) (hlt : g < w.heap.size) : w'.cell? ⟨g, o, none⟩ = w.cell? ⟨g, o, none⟩ :=
  World.cell?_of_block (w := w) (h.2 g hg hlt)

/-- as 'Has', at or above a bound -/
def HasL (lo : Nat) (w : World) (v : Value) (xs : List Value) : Prop :=
  ∃ A c, v = .slice A xs.length c ∧ xs.length ≤ c ∧ c ≤ maxLen ∧ ∀ j u, xs[j]? = some u → ∃ g o, A = some ⟨g, o, none⟩ ∧ lo ≤ g ∧ g < w.heap.size ∧ w.cell? ⟨g, o + j, none⟩ = some u
theorem HasL.has {lo : Nat} {w : World} {v : Value} {xs : List Value} (h : HasL lo w v xs) : Has w v xs := by
  obtain ⟨A, c, rfl, h1, h2, h3⟩ := h
  exact ⟨A, c, rfl, h1, h2, fun j u hu => by obtain ⟨g, o, e, _, hg, hc⟩ := h3 j u hu; exact ⟨g, o, e, hg, hc⟩⟩
theorem HasL.of_has {w : World} {v : Value} {xs : List Value} (h : Has w v xs) : HasL 0 w v xs := by
  obtain ⟨A, c, rfl, h1, h2, h3⟩ := h
  exact ⟨A, c, rfl, h1, h2, fun j u hu => by obtain ⟨g, o, e, hg, hc⟩ := h3 j u hu; exact ⟨g, o, e, Nat.zero_le _, hg, hc⟩⟩
theorem HasL.kept {lo : Nat} {w w' : World} {v : Value} {xs : List Value} (h : HasL lo w v xs) (hk : Kept lo w w') : HasL lo w' v xs := by
  obtain ⟨A, c, rfl, h1, h2, h3⟩ := h
  refine ⟨A, c, rfl, h1, h2, fun j u hu => ?_⟩
  obtain ⟨g, o, e, hl, hg, hc⟩ := h3 j u hu
  exact ⟨g, o, e, hl, Nat.lt_of_lt_of_le hg hk.1, (hk.cell hl hg).trans hc⟩
theorem HasL.mono {lo lo' : Nat} {w : World} {v : Value} {xs : List Value} (h : HasL lo w v xs) (hl : lo' ≤ lo) : HasL lo' w v xs := by
  obtain ⟨A, c, rfl, h1, h2, h3⟩ := h
  exact ⟨A, c, rfl, h1, h2, fun j u hu => by obtain ⟨g, o, e, h4, hg, hc⟩ := h3 j u hu; exact ⟨g, o, e, Nat.le_trans hl h4, hg, hc⟩⟩
theorem HasL.of_own {w : World} {base n : Nat} {e : TypeId} {v : Value} {xs : List Value} (h : w.ownsRow base e 1 v n xs) : HasL base w v xs := by
  have hl : xs.length = n := by have := h.1; omega
  rcases h.2 with ⟨rfl, rfl⟩ | ⟨g, cap, cur, rfl, hb, hg, hnc, hcm, hcs, htake⟩
  · have : xs = [] := List.eq_nil_of_length_eq_zero hl
    subst this
    exact ⟨none, 0, rfl, Nat.le_refl _, by unfold maxLen; omega, fun j u hu => by simp at hu⟩
  · refine ⟨_, cap, by rw [hl], by omega, hcm, fun j u hu => ⟨g, 0, rfl, hb, (Array.getElem?_eq_some_iff.1 hg).1, ?_⟩⟩
    have hj : j < n := by have := (List.getElem?_eq_some_iff.1 hu).1; omega
    rw [Nat.zero_add, h.cellAt j (by omega), hu]

section
variable {α : Type} [Inhabited α]
/-- how one element reads: at or above lo, in the world w, the cells cs are x -/
abbrev Reads (α : Type) := Nat → World → List Value → α → Prop
/-- v is a slice of k-cell elements that read as L -/
def HasR (R : Reads α) (k : Nat) (lo : Nat) (w : World) (v : Value) (L : List α) : Prop :=
  ∃ A c, v = .slice A L.length c ∧ L.length ≤ c ∧ c ≤ maxLen ∧ ∀ j, j < L.length → ∃ g o cs, A = some ⟨g, o, none⟩ ∧ lo ≤ g ∧ g < w.heap.size ∧
    (∀ i, i < k → w.cell? ⟨g, o + j * k + i, none⟩ = some (cs.getD i undef)) ∧ R lo w cs (L.getD j default)
/-- a reading stays where nothing at or above the bound changes, and the bound may fall -/
structure Steady (R : Reads α) : Prop where
  kept : ∀ {lo w w' cs x}, R lo w cs x → Kept lo w w' → R lo w' cs x
  mono : ∀ {lo lo' w cs x}, R lo w cs x → lo' ≤ lo → R lo' w cs x
variable {R : Reads α} {k : Nat}
theorem HasR.kept (hR : Steady R) {lo : Nat} {w w' : World} {v : Value} {L : List α} (h : HasR R k lo w v L) (hk : Kept lo w w') : HasR R k lo w' v L := by
  obtain ⟨A, c, rfl, h1, h2, h3⟩ := h
  refine ⟨A, c, rfl, h1, h2, fun j hj => ?_⟩
  obtain ⟨g, o, cs, e, hl, hg, hc, hr⟩ := h3 j hj
  exact ⟨g, o, cs, e, hl, Nat.lt_of_lt_of_le hg hk.1, fun i hi => (hk.cell hl hg).trans (hc i hi), hR.kept hr hk⟩
theorem HasR.mono (hR : Steady R) {lo lo' : Nat} {w : World} {v : Value} {L : List α} (h : HasR R k lo w v L) (hl : lo' ≤ lo) : HasR R k lo' w v L := by
  obtain ⟨A, c, rfl, h1, h2, h3⟩ := h
  refine ⟨A, c, rfl, h1, h2, fun j hj => ?_⟩
  obtain ⟨g, o, cs, e, h4, hg, hc, hr⟩ := h3 j hj
  exact ⟨g, o, cs, e, Nat.le_trans hl h4, hg, hc, hR.mono hr hl⟩
theorem HasR.below (hR : Steady R) {lo : Nat} {w w' : World} {v : Value} {L : List α} (h : HasR R k lo w v L) {B : Nat} (hB : w.heap.size ≤ B) (hb : Below B w w') : HasR R k lo w' v L := h.kept hR (Kept.below hb hB)
theorem HasR.shape {lo : Nat} {w : World} {v : Value} {L : List α} (h : HasR R k lo w v L) {n : Nat} (hn : L.length = n) : ∃ A c, v = .slice A n c ∧ HasR R k lo w (.slice A n c) L := by
  subst hn
  obtain ⟨A, c, rfl, h'⟩ := h
  exact ⟨A, c, rfl, A, c, rfl, h'⟩
theorem HasR.len {lo : Nat} {w : World} {A : Option Addr} {n c : Nat} {L : List α} (h : HasR R k lo w (.slice A n c) L) : n = L.length ∧ n ≤ 9223372036854775807 ∧ n ≤ c := by
  obtain ⟨A', c', e, h1, h2, _⟩ := h
  simp only [Value.slice.injEq] at e
  obtain ⟨rfl, rfl, rfl⟩ := e
  unfold maxLen at h2
  exact ⟨rfl, by omega, h1⟩
theorem HasR.get {lo : Nat} {w : World} {A : Option Addr} {n c : Nat} {L : List α} (h : HasR R k lo w (.slice A n c) L) {j : Nat} (hj : j < n) :
    ∃ g o cs, A = some ⟨g, o, none⟩ ∧ lo ≤ g ∧ g < w.heap.size ∧ (∀ i, i < k → w.cell? ⟨g, o + j * k + i, none⟩ = some (cs.getD i undef)) ∧ R lo w cs (L.getD j default) := by
  obtain ⟨A', c', e, h1, h2, h3⟩ := h
  simp only [Value.slice.injEq] at e
  obtain ⟨rfl, rfl, rfl⟩ := e
  exact h3 j hj
/-- without its first element -/
theorem HasR.tail {lo : Nat} {w : World} {g o n c : Nat} {L : List α} (h : HasR R k lo w (.slice (some ⟨g, o, none⟩) n c) L) (hn : 1 ≤ n) :
    HasR R k lo w (.slice (some ⟨g, o + k, none⟩) (n - 1) (c - 1)) L.tail := by
  obtain ⟨hl, _, hc⟩ := h.len
  obtain ⟨A', c', e, h1, h2, h3⟩ := h
  simp only [Value.slice.injEq] at e
  obtain ⟨rfl, rfl, rfl⟩ := e
  refine ⟨_, _, by rw [List.length_tail], by rw [List.length_tail]; omega, by omega, fun j hj => ?_⟩
  rw [List.length_tail] at hj
  obtain ⟨g', o', cs, e, hlo, hg, hc, hr⟩ := h3 (j + 1) (by omega)
  simp only [Option.some.injEq, Addr.mk.injEq, and_true] at e
  obtain ⟨rfl, rfl⟩ := e
  refine ⟨g, o + k, cs, rfl, hlo, hg, fun i hi => ?_, ?_⟩
  · rw [← hc i hi, show o + k + j * k + i = o + (j + 1) * k + i by rw [Nat.add_mul]; omega]
  · have : L.tail.getD j default = L.getD (j + 1) default := by cases L <;> simp
    rw [this]; exact hr
theorem HasR.nil (lo : Nat) (w : World) (c : Nat) (hc : c ≤ maxLen) (A : Option Addr) : HasR R k lo w (.slice A 0 c) ([] : List α) := ⟨A, c, rfl, Nat.zero_le _, hc, fun j hj => by simp at hj⟩
/-- a row of its own -/
theorem HasR.of_own {w : World} {base n : Nat} {e : TypeId} {v : Value} {xs : List Value} {L : List α} (h : w.ownsRow base e k v n xs) (hL : L.length = n)
    (hx : ∀ j, j < n → ∃ cs, (∀ i, i < k → xs[j * k + i]? = some (cs.getD i undef)) ∧ R base w cs (L.getD j default)) : HasR R k base w v L := by
  rcases h.2 with ⟨rfl, rfl⟩ | ⟨g, cap, cur, rfl, hb, hg, hnc, hcm, hcs, htake⟩
  · have : L = [] := List.eq_nil_of_length_eq_zero hL
    subst this
    exact HasR.nil _ _ _ (by unfold maxLen; omega) _
  · refine ⟨_, cap, by rw [hL], by omega, hcm, fun j hj => ?_⟩
    obtain ⟨cs, h1, h2⟩ := hx j (by omega)
    refine ⟨g, 0, cs, rfl, hb, (Array.getElem?_eq_some_iff.1 hg).1, fun i hi => ?_, h2⟩
    have hjn : (j + 1) * k ≤ n * k := Nat.mul_le_mul_right k (by omega)
    rw [Nat.add_mul] at hjn
    rw [Nat.zero_add, h.cellAt (j * k + i) (by omega)]; exact h1 i hi
theorem HasR.map {R' : Reads α} (hR : ∀ {lo w cs x}, R lo w cs x → R' lo w cs x) {lo : Nat} {w : World} {v : Value} {L : List α} (h : HasR R k lo w v L) : HasR R' k lo w v L := by
  obtain ⟨A, c, rfl, h1, h2, h3⟩ := h
  refine ⟨A, c, rfl, h1, h2, fun j hj => ?_⟩
  obtain ⟨g, o, cs, e, h4, hg, hc, hr⟩ := h3 j hj
  exact ⟨g, o, cs, e, h4, hg, hc, hR hr⟩
end
/-- five cells written into a row -/
theorem set5_old {ys : List Value} {p : Nat} {a b c d e : Value} {i : Nat} (h : i < p ∨ p + 5 ≤ i) : (((((ys.set p a).set (p + 1) b).set (p + 2) c).set (p + 3) d).set (p + 4) e)[i]? = ys[i]? := by
  rw [List.getElem?_set_ne (by omega), List.getElem?_set_ne (by omega), List.getElem?_set_ne (by omega), List.getElem?_set_ne (by omega), List.getElem?_set_ne (by omega)]
theorem set5_new {ys : List Value} {p : Nat} {a b c d e : Value} (h : p + 5 ≤ ys.length) : ∀ i, i < 5 → (((((ys.set p a).set (p + 1) b).set (p + 2) c).set (p + 3) d).set (p + 4) e)[p + i]? = some ([a, b, c, d, e].getD i undef) := by
  intro i hi
  match i, hi with
  | 0, _ => rw [List.getElem?_set_ne (by omega), List.getElem?_set_ne (by omega), List.getElem?_set_ne (by omega), List.getElem?_set_ne (by omega), Nat.add_zero, List.getElem?_set_self (by omega)]; rfl
  | 1, _ => rw [List.getElem?_set_ne (by omega), List.getElem?_set_ne (by omega), List.getElem?_set_ne (by omega), List.getElem?_set_self (by simp; omega)]; rfl
  | 2, _ => rw [List.getElem?_set_ne (by omega), List.getElem?_set_ne (by omega), List.getElem?_set_self (by simp; omega)]; rfl
  | 3, _ => rw [List.getElem?_set_ne (by omega), List.getElem?_set_self (by simp; omega)]; rfl
  | 4, _ => rw [List.getElem?_set_self (by simp; omega)]; rfl
theorem set2_old {ys : List Value} {p : Nat} {a b : Value} {i : Nat} (h : i < p ∨ p + 2 ≤ i) : ((ys.set p a).set (p + 1) b)[i]? = ys[i]? := by
  rw [List.getElem?_set_ne (by omega), List.getElem?_set_ne (by omega)]
theorem set2_new {ys : List Value} {p : Nat} {a b : Value} (h : p + 2 ≤ ys.length) : ∀ i, i < 2 → ((ys.set p a).set (p + 1) b)[p + i]? = some ([a, b].getD i undef) := by
  intro i hi
  match i, hi with
  | 0, _ => rw [List.getElem?_set_ne (by omega), Nat.add_zero, List.getElem?_set_self (by omega)]; rfl
  | 1, _ => rw [List.getElem?_set_self (by simp; omega)]; rfl
/-- cells of a row of one's own -/
theorem own_get {w : World} {g n cap base size : Nat} {e : TypeId} {xs : List Value} (h : w.ownsRow base e size (.slice (some ⟨g, 0, none⟩) n cap) n xs) {i : Nat} (hi : i < n * size) :
    (∃ v, w.cell? ⟨g, i, none⟩ = some v) ∧ w.frozen? ⟨g, i, none⟩ = false := by
  refine ⟨?_, h.frozenAt _⟩
  rw [h.cellAt i hi]
  exact ⟨_, List.getElem?_eq_getElem (by have := h.1; omega)⟩
end Go.Proofs.Ytiilamngcoegiaa.rowl
