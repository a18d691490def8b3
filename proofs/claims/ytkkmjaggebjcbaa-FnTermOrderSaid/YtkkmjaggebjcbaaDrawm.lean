/-
  TERMS AS THE DRAWS MAKE THEM: what is asked of them, and rows of them that grow.
-/
import Derived.Test.YtkkmjaggebjcbaaTermu
import Derived.Test.YtkkmjaggebjcbaaDraw
namespace Go.Proofs.Ytkkmjaggebjcbaa.drawm
open Go.ChangeShapes Go.WideShapes Go.ChangeAt Go.RowKit
open mem rowl trm trmv terml termt termu draw

def Raw (d : Nat) (t : TermM) : Prop := Bnd t ∧ bare t ∧ size t ≤ 4 ^ (d + 1)
/-- nothing at or above lo has changed, the blocks of X aside -/
def KX (lo : Nat) (X : List Nat) (w w' : World) : Prop := w.heap.size ≤ w'.heap.size ∧ ∀ k, lo ≤ k → k < w.heap.size → k ∉ X → w'.heap[k]? = w.heap[k]?
theorem KX.trans {lo : Nat} {X : List Nat} {a b c : World} (h : KX lo X a b) (k : KX lo X b c) : KX lo X a c := ⟨Nat.le_trans h.1 k.1, fun i h1 h2 h3 => (k.2 i h1 (Nat.lt_of_lt_of_le h2 h.1) h3).trans (h.2 i h1 h2 h3)⟩
theorem KX.below {lo : Nat} {X : List Nat} {w w' : World} (hb : Below w.heap.size w w') : KX lo X w w' := ⟨hb.size, fun k _ hk _ => hb.block k hk⟩
theorem KX.grown {lo g : Nat} {X : List Nat} {w w' : World} (h : w.grownBy w' (some g)) (hg : g < lo ∨ g ∈ X) : KX lo X w w' := ⟨h.size, fun k h1 h2 h3 => h.block k h2 (by intro e; injection e with e; subst e; rcases hg with h | h; omega; exact h3 h)⟩
theorem KX.set {lo g : Nat} {X : List Nat} {w : World} (hg : g ∈ X) (j : Nat) (u : Value) : KX lo X w (w.setCell ⟨g, j, none⟩ u) := ⟨by simp [World.setCell], fun k _ _ h3 => Below.heap_setCell w ⟨g, j, none⟩ u k (fun e => h3 (by rw [e]; exact hg))⟩
/-- an element whose memory lies apart from the blocks of X -/
def Child (d lo : Nat) (X : List Nat) (w : World) (va : Value) (t : TermM) : Prop := Raw d t ∧ ∃ (lo' : Nat) (wc : World), lo ≤ lo' ∧ HasTs d lo' wc va t.args ∧ Kept lo' wc w ∧ ∀ x ∈ X, x < lo' ∨ wc.heap.size ≤ x
theorem Child.kx {d lo : Nat} {X : List Nat} {w w' : World} {va : Value} {t : TermM} (h : Child d lo X w va t) (hk : KX lo X w w') : Child d lo X w' va t := by
  obtain ⟨hr, lo', wc, h1, h2, h3, h4⟩ := h
  refine ⟨hr, lo', wc, h1, h2, ⟨Nat.le_trans h3.1 hk.1, fun k hk1 hk2 => ?_⟩, h4⟩
  have h5 := h3.1
  rw [hk.2 k (by omega) (by omega) (fun hm => by have := h4 k hm; omega)]
  exact h3.2 k hk1 hk2
theorem Child.more {d lo : Nat} {X X' : List Nat} {w : World} {va : Value} {t : TermM} (h : Child d lo X w va t) (hX : ∀ x ∈ X', x ∈ X ∨ w.heap.size ≤ x) : Child d lo X' w va t := by
  obtain ⟨hr, lo', wc, h1, h2, h3, h4⟩ := h
  refine ⟨hr, lo', wc, h1, h2, h3, fun x hx => ?_⟩
  rcases hX x hx with h | h
  · exact h4 x h
  · exact .inr (Nat.le_trans h3.1 h)
theorem Child.new {d lo lo' : Nat} {X : List Nat} {w : World} {va : Value} {t : TermM} (hr : Raw d t) (h : HasTs d lo' w va t.args) (hl : lo ≤ lo') (hX : ∀ x ∈ X, x < lo' ∨ w.heap.size ≤ x) : Child d lo X w va t := ⟨hr, lo', w, hl, h, Kept.refl _ _, hX⟩
theorem Child.has {d lo : Nat} {X : List Nat} {w : World} {va : Value} {t : TermM} (h : Child d lo X w va t) : HasTs d lo w va t.args := by
  obtain ⟨hr, lo', wc, h1, h2, h3, h4⟩ := h
  exact HasR.mono (RT_steady d) (HasR.kept (RT_steady d) h2 h3) h1
/-- a row of such elements, in block g8 -/
def KidsR (d lo : Nat) (X : List Nat) (w : World) (g8 m cap : Nat) (L : List TermM) : Prop := m = L.length ∧ ∃ xs, w.ownsRow lo 26 4 (.slice (some ⟨g8, 0, none⟩) m cap) m xs ∧ ∀ j, j < m → ∃ va, Cells4 xs j (L.getD j default) va ∧ Child d lo X w va (L.getD j default)
theorem KidsR.kx {d lo : Nat} {X : List Nat} {w w' : World} {g8 m cap : Nat} {L : List TermM} (h : KidsR d lo X w g8 m cap L) (hk : KX lo X w w') (hg : w'.heap[g8]? = w.heap[g8]?) : KidsR d lo X w' g8 m cap L := by
  obtain ⟨h1, xs, h2, h3⟩ := h
  refine ⟨h1, xs, ⟨h2.1, ?_⟩, fun j hj => ?_⟩
  · rcases h2.2 with h4 | ⟨g', cap', cur, hv, hb, hh, r⟩
    · exact .inl h4
    · have e := hv
      simp only [Value.slice.injEq, Option.some.injEq, Addr.mk.injEq, and_true, true_and] at e
      obtain ⟨rfl, rfl⟩ := e
      exact .inr ⟨g8, cap, cur, rfl, hb, by rw [hg]; exact hh, r⟩
  · obtain ⟨va, h4, h5⟩ := h3 j hj
    exact ⟨va, h4, h5.kx hk⟩
theorem KidsR.one {d lo : Nat} {w : World} {va : Value} {t : TermM} (hr : Raw d t) (h : HasTs d lo w va t.args) (hl : lo ≤ w.heap.size) (X : List Nat) (hX : ∀ x ∈ X, w.heap.size ≤ x) :
    KidsR d lo X (w.alloc (.cells #[.int .i64 t.op, .string (bstr t.name), .int .i64 t.sort, va] 26)) w.heap.size 1 1 [t] := by
  refine ⟨rfl, _, World.ownsRow_lit (e := 26) (size := 4) w #[.int .i64 t.op, .string (bstr t.name), .int .i64 t.sort, va] 1 hl (by unfold maxLen; omega) rfl, fun j hj => ?_⟩
  obtain rfl : j = 0 := by omega
  refine ⟨va, ⟨rfl, rfl, rfl, rfl⟩, ?_⟩
  exact (Child.new (X := X) hr h (Nat.le_refl _) (fun x hx => .inr (hX x hx))).kx (KX.below ((Below.refl _ _).alloc (Nat.le_refl _) _))
/-- an element more: what the append leaves -/
theorem KidsR.snoc {d lo : Nat} {X X' : List Nat} {w w' : World} {g8 m cap g9 cap9 : Nat} {L : List TermM} {va : Value} {t : TermM} (h : KidsR d lo X w g8 m cap L) (hc : Child d lo X w va t) (hX : g8 ∈ X) (hX' : ∀ x ∈ X', x ∈ X ∨ w.heap.size ≤ x)
    (hg : w.grownBy w' (some g8)) (ho : ∀ xs, w.ownsRow lo 26 4 (.slice (some ⟨g8, 0, none⟩) m cap) m xs → w'.ownsRow lo 26 4 (.slice (some ⟨g9, 0, none⟩) (m + 1) cap9) (m + 1) (xs ++ [.int .i64 t.op, .string (bstr t.name), .int .i64 t.sort, va])) : KidsR d lo X' w' g9 (m + 1) cap9 (L ++ [t]) := by
  obtain ⟨h1, xs, h2, h3⟩ := h
  have hk : KX lo X w w' := KX.grown hg (.inr hX)
  have hl := h2.1
  have key : ∀ {vb : Value} {u : TermM}, Child d lo X w vb u → Child d lo X' w' vb u := fun hc => by
    have h4 := hc.more hX'
    obtain ⟨hr, lo', wc, a1, a2, a3, a4⟩ := h4
    have h5 := hc.kx hk
    obtain ⟨hr', lo2, wc2, b1, b2, b3, b4⟩ := hc
    exact ⟨hr, lo2, wc2, b1, b2, ⟨Nat.le_trans b3.1 hg.size, fun k c1 c2 => by
      rw [hg.block k (Nat.lt_of_lt_of_le c2 b3.1) (by intro e; injection e with e; subst e; have := b4 _ hX; omega)]
      exact b3.2 k c1 c2⟩, fun x hx => by
      rcases hX' x hx with h | h
      · exact b4 x h
      · exact .inr (Nat.le_trans b3.1 h)⟩
  refine ⟨by rw [List.length_append, ← h1]; rfl, _, ho xs h2, fun j hj => ?_⟩
  by_cases hjm : j < m
  · obtain ⟨vb, ⟨e0, e1, e2, e3⟩, h5⟩ := h3 j hjm
    have e : (L ++ [t]).getD j default = L.getD j default := by simp only [List.getD]; rw [List.getElem?_append_left (by omega)]
    rw [e]
    exact ⟨vb, ⟨by rw [List.getElem?_append_left (by omega)]; exact e0, by rw [List.getElem?_append_left (by omega)]; exact e1, by rw [List.getElem?_append_left (by omega)]; exact e2, by rw [List.getElem?_append_left (by omega)]; exact e3⟩, key h5⟩
  · obtain rfl : j = m := by omega
    have e : (L ++ [t]).getD j default = t := by simp only [List.getD]; rw [List.getElem?_append_right (by omega), h1, Nat.sub_self]; rfl
    rw [e]
    refine ⟨va, ⟨?_, ?_, ?_, ?_⟩, key hc⟩
    · rw [List.getElem?_append_right (by omega), hl, Nat.sub_self]; rfl
    · rw [List.getElem?_append_right (by omega), hl, Nat.add_sub_cancel_left]; rfl
    · rw [List.getElem?_append_right (by omega), hl, Nat.add_sub_cancel_left]; rfl
    · rw [List.getElem?_append_right (by omega), hl, Nat.add_sub_cancel_left]; rfl
theorem KidsR.has {d lo : Nat} {X : List Nat} {w : World} {g8 m cap : Nat} {L : List TermM} (h : KidsR d lo X w g8 m cap L) : HasTs (d + 1) lo w (.slice (some ⟨g8, 0, none⟩) m cap) L ∧ ∀ x ∈ L, Raw d x := by
  obtain ⟨h1, xs, h2, h3⟩ := h
  refine ⟨HasR.of_own h2 h1.symm (fun j hj => ?_), fun x hx => ?_⟩
  · obtain ⟨va, ⟨e0, e1, e2, e3⟩, h5⟩ := h3 j hj
    refine ⟨[.int .i64 (L.getD j default).op, .string (bstr (L.getD j default).name), .int .i64 (L.getD j default).sort, va], fun i hi => ?_, va, rfl, h5.has, h5.1.1.1, h5.1.1.2.1, h5.1.1.2.2⟩
    match i, hi with
    | 0, _ => exact e0
    | 1, _ => exact e1
    | 2, _ => exact e2
    | 3, _ => exact e3
  · obtain ⟨j, hj, rfl⟩ := List.getElem_of_mem hx
    obtain ⟨va, _, h5⟩ := h3 j (by omega)
    rw [getD_at hj] at h5
    exact h5.1
theorem raw_node {d : Nat} {o : Int} {L : List TermM} (ho : o ≠ -1) (hoI : I64 o) (h : ∀ x ∈ L, Raw d x) (hl : L.length ≤ 3) : Raw (d + 1) (.mk o [] 0 L) := by
  refine ⟨⟨by show ([] : List UInt8).length ≤ _; simp, hoI, by show I64 0; unfold I64; omega⟩, (bare_mk _ _ _ _).2 ⟨fun e => absurd e ho, fun a ha => (h a ha).2.1⟩, ?_⟩
  rw [size_mk]
  have key : ∀ L : List TermM, (∀ x ∈ L, Raw d x) → sizes L ≤ L.length * 4 ^ (d + 1) := by
    intro L
    induction L with
    | nil => intro _; simp [sizes]
    | cons a l ih =>
      intro h
      have h1 := (h a (by simp)).2.2
      have h2 := ih (fun x hx => h x (by simp [hx]))
      simp only [sizes, List.map_cons, List.sum_cons, List.length_cons] at h2 ⊢
      rw [Nat.add_mul]
      omega
  have h1 := key L h
  have h2 : L.length * 4 ^ (d + 1) ≤ 3 * 4 ^ (d + 1) := Nat.mul_le_mul_right _ hl
  have h3 : 1 ≤ 4 ^ (d + 1) := Nat.one_le_pow _ _ (by omega)
  have h4 : 4 ^ (d + 1 + 1) = 4 ^ (d + 1) * 4 := rfl
  omega
theorem raw_var {d : Nat} {l : List UInt8} {s : Int} (hl : l.length ≤ maxLen) (hs : I64 s) : Raw d (var l s) := by
  refine ⟨⟨hl, by show I64 (-1); unfold I64; omega, hs⟩, (bare_mk _ _ _ _).2 ⟨fun _ => rfl, fun a ha => by simp at ha⟩, ?_⟩
  unfold var
  rw [size_mk]
  have h3 : 1 ≤ 4 ^ (d + 1) := Nat.one_le_pow _ _ (by omega)
  simpa [sizes] using h3
theorem raw_leaf {d : Nat} {o : Int} (ho : I64 o) : Raw d (.mk o [] 0 []) := by
  refine ⟨⟨by show ([] : List UInt8).length ≤ _; simp, ho, by show I64 0; unfold I64; omega⟩, (bare_mk _ _ _ _).2 ⟨fun _ => rfl, fun a ha => by simp at ha⟩, ?_⟩
  rw [size_mk]
  have h3 : 1 ≤ 4 ^ (d + 1) := Nat.one_le_pow _ _ (by omega)
  simpa [sizes] using h3
end Go.Proofs.Ytkkmjaggebjcbaa.drawm
