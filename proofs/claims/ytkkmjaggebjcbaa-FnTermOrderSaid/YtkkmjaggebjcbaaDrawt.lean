/-
  THE DRAW OF A TERM.
-/
import Derived.Test.YtkkmjaggebjcbaaDrawm
import Derived.Test.YtkkmjaggebjcbaaTermin
namespace Go.Proofs.Ytkkmjaggebjcbaa.drawt
open Go.ChangeShapes Go.WideShapes Go.ChangeAt Go.RowKit
open mem rowl trm trmv terml termb termt termu draw drawm termvx

theorem step_blk {B n g : Nat} {W0 a b : World} {v : Value} (h : Step B W0 v n g a b) {k : Nat} {o : Obj} (hk : a.heap[k]? = some o) (hg : k ≠ g) : b.heap[k]? = some o := by
  rw [h.2.block k (Array.getElem?_eq_some_iff.1 hk).1 (by intro e; injection e with e; exact hg e)]; exact hk
theorem step_set {B n g : Nat} {W0 a b : World} {v : Value} (h : Step B W0 v n g a b) {x : Nat} (hx : a.heap.size ≤ x) (hg : x ≠ g) (hB : B ≤ x) (i : Nat) (u : Value) : Step B W0 v n g a (b.setCell ⟨x, i, none⟩ u) := by
  obtain ⟨⟨h1, h2, k, hh, hi, hc⟩, h3⟩ := h
  refine ⟨⟨h1, h2.setCell hB u, k, hh, hi, ?_⟩, ⟨h3.os, h3.tape, h3.output, by simpa [World.setCell] using h3.size, fun q hq hn => ?_⟩⟩
  · rw [Below.heap_setCell b ⟨x, i, none⟩ u g (fun e => hg e.symm)]; exact hc
  · rw [Below.heap_setCell b ⟨x, i, none⟩ u q (fun e => by have e' : q = x := e; omega)]; exact h3.block q hq hn
theorem step_set4 {B n g : Nat} {W0 a b : World} {v : Value} (h : Step B W0 v n g a b) {x : Nat} (hx : a.heap.size ≤ x) (hg : x ≠ g) (hB : B ≤ x) (u0 u1 u2 u3 : Value) : Step B W0 v n g a ((((b.setCell ⟨x, 0, none⟩ u0).setCell ⟨x, 1, none⟩ u1).setCell ⟨x, 2, none⟩ u2).setCell ⟨x, 3, none⟩ u3) :=
  step_set (step_set (step_set (step_set h hx hg hB _ _) hx hg hB _ _) hx hg hB _ _) hx hg hB _ _
theorem step_below {B n g : Nat} {W0 a b : World} {v : Value} (h : Cur B W0 v n g a) (hb : Below a.heap.size a b) : Step B W0 v n g a b := by
  have hk := h.lt
  exact ⟨h.keep hb (by omega), grown_below (World.grownBy.refl _ _) hb⟩
def Box (w : World) (x : Nat) (a b c d : Value) : Prop := w.heap[x]? = some (.cells #[a, b, c, d] 26 (0, 0))
theorem Box.cells {w : World} {x : Nat} {a b c d : Value} (h : Box w x a b c d) : (w.cell? ⟨x, 0, none⟩ = some a ∧ w.cell? ⟨x, 1, none⟩ = some b ∧ w.cell? ⟨x, 2, none⟩ = some c ∧ w.cell? ⟨x, 3, none⟩ = some d) ∧ w.frozen? ⟨x, 0, none⟩ = false ∧ w.frozen? ⟨x, 1, none⟩ = false ∧ w.frozen? ⟨x, 2, none⟩ = false ∧ w.frozen? ⟨x, 3, none⟩ = false :=
  ⟨⟨cell_of_row w x 0 _ _ _ h, cell_of_row w x 1 _ _ _ h, cell_of_row w x 2 _ _ _ h, cell_of_row w x 3 _ _ _ h⟩, frozen_of_row w x 0 _ _ h, frozen_of_row w x 1 _ _ h, frozen_of_row w x 2 _ _ h, frozen_of_row w x 3 _ _ h⟩
theorem pick_xyz {x : Value} (h : x ∈ [Value.string (bstr [120]), .string (bstr [121]), .string (bstr [122])]) : ∃ l, x = .string (bstr l) ∧ l.length ≤ maxLen := by
  simp at h
  unfold maxLen
  rcases h with rfl | rfl | rfl
  · exact ⟨_, rfl, by simp⟩
  · exact ⟨_, rfl, by simp⟩
  · exact ⟨_, rfl, by simp⟩
theorem own_unique {w : World} {base base' n g cap size : Nat} {e e' : TypeId} {xs ys : List Value} (h : w.ownsRow base e size (.slice (some ⟨g, 0, none⟩) n cap) n xs) (h' : w.ownsRow base' e' size (.slice (some ⟨g, 0, none⟩) n cap) n ys) : xs = ys := by
  apply List.ext_getElem?
  intro j
  by_cases hj : j < n * size
  · have a := h.cellAt j hj
    have b := h'.cellAt j hj
    rw [← a, ← b]
  · rw [List.getElem?_eq_none (by have := h.1; omega), List.getElem?_eq_none (by have := h'.1; omega)]
theorem step_grown {B n g : Nat} {W0 a b c : World} {v : Value} (h : Step B W0 v n g a b) {x : Nat} (hg : b.grownBy c (some x)) (hx : a.heap.size ≤ x) (hne : x ≠ g) (hB : B ≤ x) (hBb : B ≤ b.heap.size) : Step B W0 v n g a c := by
  obtain ⟨⟨h1, h2, k, hh, hi, hc⟩, h3⟩ := h
  refine ⟨⟨h1, h2.grown hg hBb (by intro q hq; cases hq; exact hB), k, hh, hi, ?_⟩, ⟨hg.os.trans h3.os, hg.tape.trans h3.tape, hg.output.trans h3.output, Nat.le_trans h3.size hg.size, fun q hq hn => ?_⟩⟩
  · rw [hg.block g (Array.getElem?_eq_some_iff.1 hc).1 (by intro e; injection e with e; exact hne e.symm)]; exact hc
  · rw [hg.block q (Nat.lt_of_lt_of_le hq h3.size) (by intro e; injection e with e; omega)]; exact h3.block q hq hn
theorem box_set {w : World} {x : Nat} {a b c d : Value} (h : Box w x a b c d) (u : Value) : Box (w.setCell ⟨x, 3, none⟩ u) x a b c u := by
  have := heap_setCell_same w x 3 #[a, b, c, d] 26 u h
  simpa [Box] using this
theorem box_far {w : World} {x y i : Nat} {a b c d : Value} (h : Box w x a b c d) (hne : x ≠ y) (u : Value) : Box (w.setCell ⟨y, i, none⟩ u) x a b c d := (Below.heap_setCell w ⟨y, i, none⟩ u x hne).trans h
theorem box_grown {w w' : World} {x y : Nat} {a b c d : Value} (h : Box w x a b c d) (hg : w.grownBy w' (some y)) (hne : x ≠ y) : Box w' x a b c d := (hg.block x (Array.getElem?_eq_some_iff.1 h).1 (by intro e; injection e with e; exact hne e)).trans h
theorem box_below {w w' : World} {x : Nat} {a b c d : Value} (h : Box w x a b c d) (hb : Below w.heap.size w w') : Box w' x a b c d := (hb.block x (Array.getElem?_eq_some_iff.1 h).1).trans h
/-- a term under way: its box at x8, its arguments in g8 -/
structure St (B n g : Nat) (W0 : World) (v : Value) (w : World) (k : Nat) (op : Int) (g8 m cap : Nat) (L : List TermM) (x8 : Nat) (W : World) : Prop where
  kids : KidsR k (w.heap.size + 1) [g8, x8] W g8 m cap L
  box : Box W x8 (.int .i64 op) (.string { data := #[] }) (.int .i64 0) (.slice (some ⟨g8, 0, none⟩) m cap)
  step : Step B W0 v n g w W
  res : Box W w.heap.size (.int .i64 0) (.string { data := #[] }) (.int .i64 0) (.slice none 0 0)
  ne : g8 ≠ x8 ∧ w.heap.size < g8 ∧ w.heap.size < x8 ∧ g8 < W.heap.size
theorem St.next {B n g : Nat} {W0 : World} {v : Value} {w : World} {k : Nat} {op : Int} {g8 m cap : Nat} {L : List TermM} {x8 : Nat} {W w3 w5 : World} {va : Value} {t : TermM} {xs : List Value} {g4 cap4 : Nat} (h : St B n g W0 v w k op g8 m cap L x8 W) (hgw : g < w.heap.size) (hBg : B ≤ g)
    (hs3 : Step B W0 v n g W.drew w3) (hh : HasTs k W.drew.heap.size w3 va t.args) (hr : Raw k t) (ho : W.ownsRow (w.heap.size + 1) 26 4 (.slice (some ⟨g8, 0, none⟩) m cap) m xs)
    (hown : w5.ownsRow (w.heap.size + 1) 26 4 (.slice (some ⟨g4, 0, none⟩) (m + 1) cap4) (m + 1) (xs ++ [.int .i64 t.op, .string (bstr t.name), .int .i64 t.sort, va]))
    (hgr : (w3.alloc (.cells #[.int .i64 t.op, .string (bstr t.name), .int .i64 t.sort, va] 26)).grownBy w5 (some g8)) (hg4 : g4 = g8 ∨ g4 = (w3.alloc (.cells #[.int .i64 t.op, .string (bstr t.name), .int .i64 t.sort, va] 26)).heap.size) (hlt : g4 < w5.heap.size) :
    St B n g W0 v w k op g4 (m + 1) cap4 (L ++ [t]) x8 (w5.setCell ⟨x8, 3, none⟩ (.slice (some ⟨g4, 0, none⟩) (m + 1) cap4)) ∧ Box w5 x8 (.int .i64 op) (.string { data := #[] }) (.int .i64 0) (.slice (some ⟨g8, 0, none⟩) m cap) := by
  obtain ⟨hk, hb, hst, hre, h1, h2, h3, h4⟩ := h
  have hx8 : x8 < W.heap.size := (Array.getElem?_eq_some_iff.1 hb).1
  have hz3 : W.heap.size ≤ w3.heap.size := hs3.2.size
  have hal : Below w3.heap.size w3 (w3.alloc (.cells #[.int .i64 t.op, .string (bstr t.name), .int .i64 t.sort, va] 26)) := (Below.refl _ _).alloc (Nat.le_refl _) _
  have hza : (w3.alloc (.cells #[.int .i64 t.op, .string (bstr t.name), .int .i64 t.sort, va] 26)).heap.size = w3.heap.size + 1 := by simp
  have hg4' : g4 ≠ x8 ∧ w.heap.size < g4 := by rcases hg4 with e | e <;> (rw [e]; omega)
  have hD : Below W.heap.size W W.drew := (Below.refl _ _).drew
  have hk3 : KidsR k (w.heap.size + 1) [g8, x8] w3 g8 m cap L := (hk.kx (KX.below hD) rfl).kx (KX.grown hs3.2 (.inl (by omega))) (hs3.2.block g8 h4 (by intro e; injection e with e; omega))
  have hk4 := hk3.kx (KX.below hal) (hal.block g8 (by omega))
  have hc : Child k (w.heap.size + 1) [g8, x8] w3 va t := Child.new hr hh (by show _ ≤ W.heap.size; omega) (fun x hx => by simp at hx; rcases hx with rfl | rfl <;> (left; show _ < W.heap.size; omega))
  have hc4 := hc.kx (KX.below (X := [g8, x8]) (lo := w.heap.size + 1) hal)
  have ho4 := own_below (own_grown (own_below ho hD) hs3.2 (by omega)) hal
  have hk5 : KidsR k (w.heap.size + 1) [g4, x8] w5 g4 (m + 1) cap4 (L ++ [t]) := hk4.snoc hc4 (by simp) (fun x hx => by
    simp at hx
    rcases hx with rfl | rfl
    · rcases hg4 with e | e
      · exact .inl (by simp [e])
      · exact .inr (by rw [e]; exact Nat.le_refl _)
    · exact .inl (by simp)) hgr (fun ys hy => by rw [own_unique hy ho4]; exact hown)
  have hb5 := box_grown (box_below (box_grown (box_below hb hD) hs3.2 (by omega)) hal) hgr h1.symm
  refine ⟨⟨hk5.kx (KX.set (by simp) _ _) (Below.heap_setCell w5 ⟨x8, 3, none⟩ _ g4 hg4'.1), box_set hb5 _, ?_, ?_, ⟨hg4'.1, hg4'.2, h3, by simpa [World.setCell] using hlt⟩⟩, hb5⟩
  · have a1 : Step B W0 v n g w w3 := (hst.trans (step_below hst.1 hD)).trans hs3
    have hw3 : w.heap.size ≤ w3.heap.size := a1.2.size
    exact step_set (step_grown (a1.alloc _) hgr (by omega) (by omega) (by omega) (by omega)) (by omega) (by omega) (by omega) _ _
  · exact box_far (box_grown (box_below (box_grown (box_below hre hD) hs3.2 (by omega)) hal) hgr (by omega)) (by omega) _
theorem St.cur {B n g : Nat} {W0 : World} {v : Value} {w : World} {k : Nat} {op : Int} {g8 m cap : Nat} {L : List TermM} {x8 : Nat} {W w6 : World} (h : St B n g W0 v w k op g8 m cap L x8 W) (hs : Step B W0 v n g W w6) (hgw : g < w.heap.size) : St B n g W0 v w k op g8 m cap L x8 w6 := by
  obtain ⟨hk, hb, hst, hre, h1, h2, h3, h4⟩ := h
  exact ⟨hk.kx (KX.grown hs.2 (.inl (by omega))) (hs.2.block g8 h4 (by intro e; injection e with e; omega)), box_grown hb hs.2 (by omega), hst.trans hs, box_grown hre hs.2 (by omega), ⟨h1, h2, h3, Nat.lt_of_lt_of_le h4 hs.2.size⟩⟩
theorem St.start {B n g : Nat} {W0 : World} {v : Value} {w w1 w2 : World} {k : Nat} {op : Int} {va : Value} {t : TermM} (hs1 : Step B W0 v n g w w1) (hz : w.heap.size + 1 ≤ w1.heap.size) (hX : Box w1 w.heap.size (.int .i64 0) (.string { data := #[] }) (.int .i64 0) (.slice none 0 0)) (hgw : g < w.heap.size)
    (hs2 : Step B W0 v n g w1 w2) (hh : HasTs k w1.heap.size w2 va t.args) (hr : Raw k t) : St B n g W0 v w k op w2.heap.size 1 1 [t] (w2.heap.size + 1) ((w2.alloc (.cells #[.int .i64 t.op, .string (bstr t.name), .int .i64 t.sort, va] 26)).alloc (.cells #[.int .i64 op, .string { data := #[] }, .int .i64 0, .slice (some ⟨w2.heap.size, 0, none⟩) 1 1] 26)) := by
  have hz2 := hs2.2.size
  have h1 := KidsR.one (lo := w.heap.size + 1) hr (HasR.mono (RT_steady k) hh hz) (by omega) [w2.heap.size, w2.heap.size + 1] (fun x hx => by simp at hx; omega)
  refine ⟨h1.kx (KX.below ((Below.refl _ _).alloc (Nat.le_refl _) _)) (((Below.refl (w2.alloc (.cells #[.int .i64 t.op, .string (bstr t.name), .int .i64 t.sort, va] 26)).heap.size _).alloc (Nat.le_refl _) _).block _ (by simp)), heap_at _ _ _ (by simp), ((hs1.trans hs2).alloc _).alloc _, ?_, ⟨by omega, by omega, by omega, by simp; omega⟩⟩
  exact box_below (box_below (step_blk hs2 hX (by omega)) ((Below.refl _ _).alloc (Nat.le_refl _) _)) ((Below.refl _ _).alloc (Nat.le_refl _) _)
/-- what a draw leaves: the term's memory is new -/
def RawPost (B n g : Nat) (W0 : World) (v : Value) (d : Nat) (w : World) (e : Ending) (w' : World) : Prop := ∃ (t : TermM) (va : Value), e = .returned (.agg #[.int .i64 t.op, .string (bstr t.name), .int .i64 t.sort, va]) ∧ HasTs d w.heap.size w' va t.args ∧ Raw d t ∧ Step B W0 v n g w w'
def RawT (d : Nat) : Prop := ∀ (B n g : Nat) (W0 : World) (v : Value), draw.Code B W0 v n → ∀ (ops : Int), 4 ≤ ops → ops ≤ 1000 → ∀ w, Cur B W0 v n g w → Calls Try.prog 18 #[.pointer (some ⟨g, 0, none⟩), .int .i64 ops, .int .i64 d] w (RawPost B n g W0 v d w)
theorem set4_alloc2 (w : World) (x : Nat) (h : x < w.heap.size) (u0 u1 u2 u3 : Value) (o1 o2 : Obj) : (((((w.setCell ⟨x, 0, none⟩ u0).setCell ⟨x, 1, none⟩ u1).setCell ⟨x, 2, none⟩ u2).setCell ⟨x, 3, none⟩ u3).alloc o1).alloc o2 = (((((w.alloc o1).alloc o2).setCell ⟨x, 0, none⟩ u0).setCell ⟨x, 1, none⟩ u1).setCell ⟨x, 2, none⟩ u2).setCell ⟨x, 3, none⟩ u3 := by
  have hs : ∀ (w : World) (i : Nat) (u : Value), (w.setCell ⟨x, i, none⟩ u).heap.size = w.heap.size := fun w i u => by simp [World.setCell]
  have k : ∀ (w : World) (o : Obj) (i : Nat) (u : Value), x < w.heap.size → (w.alloc o).setCell ⟨x, i, none⟩ u = (w.setCell ⟨x, i, none⟩ u).alloc o := fun w o i u h => World.setCell_alloc_past o x i u h
  have h1 : x < (w.alloc o1).heap.size := by simp; omega
  rw [k _ o2 0 u0 h1, k _ o1 0 u0 h]
  rw [k _ o2 1 u1 (by simp; omega), k _ o1 1 u1 (by rw [hs]; exact h)]
  rw [k _ o2 2 u2 (by simp; omega), k _ o1 2 u2 (by rw [hs, hs]; exact h)]
  rw [k _ o2 3 u3 (by simp; omega), k _ o1 3 u3 (by rw [hs, hs, hs]; exact h)]
theorem fin_node {B n g : Nat} {W0 : World} {v : Value} {w : World} {k : Nat} {op : Int} {g8 m cap : Nat} {L : List TermM} {x8 : Nat} {W : World} {u0 u1 u2 u3 : Value} (h : St B n g W0 v w k op g8 m cap L x8 W) (hgw : g < w.heap.size) (ho : op ≠ -1) (hoI : I64 op) (hl : L.length ≤ 3) (hBg : B ≤ g := by omega) :
    RawPost B n g W0 v (k + 1) w (.returned (.agg #[.int .i64 op, .string (bstr []), .int .i64 0, .slice (some ⟨g8, 0, none⟩) m cap])) ((((W.setCell ⟨w.heap.size, 0, none⟩ u0).setCell ⟨w.heap.size, 1, none⟩ u1).setCell ⟨w.heap.size, 2, none⟩ u2).setCell ⟨w.heap.size, 3, none⟩ u3) := by
  obtain ⟨h1, h2⟩ := h.kids.has
  have k1 : ∀ (W : World) (i : Nat) (u : Value), Kept (w.heap.size + 1) W (W.setCell ⟨w.heap.size, i, none⟩ u) := fun W i u => Kept.set (by show w.heap.size < _; omega) u
  have kp := (((k1 W 0 u0).trans (k1 _ 1 u1)).trans (k1 _ 2 u2)).trans (k1 _ 3 u3)
  refine ⟨.mk op [] 0 L, .slice (some ⟨g8, 0, none⟩) m cap, rfl, ?_, raw_node ho hoI h2 hl, ?_⟩
  · exact HasR.mono (RT_steady _) (HasR.kept (RT_steady _) h1 kp) (Nat.le_succ _)
  · exact step_set4 h.step (Nat.le_refl _) (by omega) (by omega) _ _ _ _
set_option maxRecDepth 50000 in
set_option maxHeartbeats 8000000 in
theorem raw_step {d : Nat} (hd : d ≤ 20) (hS : ∀ k, d = k + 1 → RawT k) : RawT d := by
  intro B n g W0 v hcode ops hops1 hops2 w hcur
  have HON := Lib.hid (fun m (h1 : 0 < m) (h2 : m ≤ 1000000000) W hW => once_any (g := g) hcode m h1 h2 W hW)
  have HBE := Lib.hid (fun m (h1 : 0 < m) (h2 : m ≤ 1000000000) W hW => below_any (g := g) hcode m h1 h2 W hW)
  have HPI := Lib.hid (fun (u : Value) (base : Nat) (hgb : g < base) W hW ho => pick_any (g := g) hcode [.string (bstr [120]), .string (bstr [121]), .string (bstr [122])] (fun x hx => by simp at hx; rcases hx with rfl | rfl | rfl <;> exact ⟨_, rfl⟩) 3 (by omega) (by omega) u base hgb W hW ho)
  have HCU := Lib.hid hcur
  have hgw := hcur.lt.2
  have hBg := hcur.lt.1
  have HS := Lib.hid hS
  have HCO := Lib.hid hcode
  obtain ⟨j0, hij, hy0, hy1, hy2⟩ := info_parts info_term
  clear hcode hcur hS
  have hb0 : Below w.heap.size w (w.alloc (.cells #[.int .i64 0, .string { data := #[] }, .int .i64 0, .slice none 0 0] 26)) := (Below.refl _ _).alloc (Nat.le_refl _) _
  have HC0 : Hid (Step B W0 v n g w (w.alloc (.cells #[.int .i64 0, .string { data := #[] }, .int .i64 0, .slice none 0 0] 26))) := Lib.hid ((Step.refl HCU.out).alloc _)
  clear hb0
  have HB0 : Hid (Box (w.alloc (.cells #[.int .i64 0, .string { data := #[] }, .int .i64 0, .slice none 0 0] 26)) w.heap.size (.int .i64 0) (.string { data := #[] }) (.int .i64 0) (.slice none 0 0)) := Lib.hid (heap_at _ _ _ rfl)
  by_cases hd0 : d = 0
  · subst hd0
    go_enter Try.func18, Try.ntmps18
    go_wp2_with fail
    have HCX := HC0
    have HXX := HB0
    refine (HON.out 3 (by omega) (by omega) _ HCX.out.1).mono ?_
    rintro e w1 ⟨x, rfl, hs1⟩
    have HC1 : Hid (Step B W0 v n g w w1) := Lib.hid (HCX.out.trans hs1)
    have HX1 : Hid (Box w1 w.heap.size (.int .i64 0) (.string { data := #[] }) (.int .i64 0) (.slice none 0 0)) := Lib.hid (step_blk hs1 HXX.out (by omega))
    clear hs1 HCX HXX
    cases x with
    | true =>
      go_wp2_with fail
      refine (HPI.out _ (g + 1) (Nat.lt_succ_self _) _ (HC1.out.alloc _).1 (own_mono (World.ownsRow_lit (e := 9) (size := 1) w1 #[.string (bstr [120]), .string (bstr [121]), .string (bstr [122])] 3 (Nat.le_refl _) (by unfold maxLen; omega) rfl) (by have := HC1.out.1.lt.2; omega))).mono ?_
      rintro e w2 ⟨x, rfl, hx, hs2⟩
      obtain ⟨l, rfl, hl⟩ := pick_xyz hx
      have HC2 : Hid (Step B W0 v n g w w2) := Lib.hid ((HC1.out.alloc _).trans hs2)
      have HX2 : Hid (Box w2 w.heap.size (.int .i64 0) (.string { data := #[] }) (.int .i64 0) (.slice none 0 0)) := Lib.hid (step_blk hs2 (((Below.refl _ _).alloc (Nat.le_refl _) _).block _ (Array.getElem?_eq_some_iff.1 HX1.out).1 |>.trans HX1.out) (by omega))
      have HL := Lib.hid hl
      clear hs2 hx hl HC1 HX1
      go_wp2_with fail
      refine (HBE.out 3 (by omega) (by omega) _ HC2.out.1).mono ?_
      rintro e w3 ⟨y, rfl, hy3, hy4, hs3⟩
      have HC3 : Hid (Step B W0 v n g w w3) := Lib.hid (HC2.out.trans hs3)
      have HX3 : Hid (Box w3 w.heap.size (.int .i64 0) (.string { data := #[] }) (.int .i64 0) (.slice none 0 0)) := Lib.hid (step_blk hs3 HX2.out (by omega))
      clear hs3 HC2 HX2
      go_wp2_with fail
      refine (termin.var_any l y w3).mono ?_
      rintro e w4 ⟨rfl, hb4⟩
      have HC4 : Hid (Step B W0 v n g w w4) := Lib.hid (HC3.out.trans (step_below HC3.out.1 hb4))
      have HX4 : Hid (Box w4 w.heap.size (.int .i64 0) (.string { data := #[] }) (.int .i64 0) (.slice none 0 0)) := Lib.hid ((hb4.block _ (Array.getElem?_eq_some_iff.1 HX3.out).1).trans HX3.out)
      clear hb4 HC3 HX3
      obtain ⟨⟨c0, c1, c2, c3⟩, f0, f1, f2, f3⟩ := HX4.out.cells
      have HY : Hid (I64 y) := Lib.hid ⟨by omega, by omega⟩
      go_wp2
      refine bodyPost_ret (v := .agg #[.int .i64 (-1), .string (bstr l), .int .i64 y, .slice none 0 0]) (by simp [results, Try.results18, go_sem, c0, c1, c2, c3]) rfl ?_
      exact ⟨var l y, .slice none 0 0, rfl, HasR.nil _ _ _ (by unfold maxLen; omega) _, raw_var HL.out HY.out, step_set4 HC4.out (Nat.le_refl _) (by omega) (by omega) _ _ _ _⟩
    | false =>
      go_wp2_with fail
      refine (HBE.out 3 (by omega) (by omega) _ HC1.out.1).mono ?_
      rintro e w3 ⟨y, rfl, hy3, hy4, hs3⟩
      have HC3 : Hid (Step B W0 v n g w w3) := Lib.hid (HC1.out.trans hs3)
      have HX3 : Hid (Box w3 w.heap.size (.int .i64 0) (.string { data := #[] }) (.int .i64 0) (.slice none 0 0)) := Lib.hid (step_blk hs3 HX1.out (by omega))
      clear hs3 HC1 HX1
      obtain ⟨⟨c0, c1, c2, c3⟩, f0, f1, f2, f3⟩ := HX3.out.cells
      have HY : Hid (I64 y) := Lib.hid ⟨by omega, by omega⟩
      go_wp2
      refine bodyPost_ret (v := .agg #[.int .i64 y, .string (bstr []), .int .i64 0, .slice none 0 0]) (by simp [results, Try.results18, go_sem, c0, c1, c2, c3, bstr]) rfl ?_
      exact ⟨.mk y [] 0 [], .slice none 0 0, rfl, HasR.nil _ _ _ (by unfold maxLen; omega) _, raw_leaf HY.out, step_set4 HC3.out (Nat.le_refl _) (by omega) (by omega) _ _ _ _⟩
  · obtain ⟨k, rfl⟩ : ∃ k, d = k + 1 := ⟨d - 1, by omega⟩
    have HRA := Lib.hid (fun W hW => HS.out k rfl B n g W0 v HCO.out ops hops1 hops2 W hW)
    have i1 : (0 : Int) < (k : Int) + 1 := by omega
    have i2 : decide ((k : Int) + 1 ≤ 0) = false := decide_eq_false (by omega)
    have i3 : decide (((k + 1 : Nat) : Int) ≤ 0) = false := decide_eq_false (by omega)
    go_enter Try.func18, Try.ntmps18
    go_wp2_with fail
    refine (HON.out 4 (by omega) (by omega) _ HC0.out.1).mono ?_
    rintro e w0 ⟨x, rfl, hs0⟩
    have HCX : Hid (Step B W0 v n g w w0) := Lib.hid (HC0.out.trans hs0)
    have HXX : Hid (Box w0 w.heap.size (.int .i64 0) (.string { data := #[] }) (.int .i64 0) (.slice none 0 0)) := Lib.hid (step_blk hs0 HB0.out (by omega))
    clear hs0 HC0 HB0
    cases x with
    | true =>
      go_wp2_with fail
      refine (HON.out 3 (by omega) (by omega) _ HCX.out.1).mono ?_
      rintro e w1 ⟨x, rfl, hs1⟩
      have HC1 : Hid (Step B W0 v n g w w1) := Lib.hid (HCX.out.trans hs1)
      have HX1 : Hid (Box w1 w.heap.size (.int .i64 0) (.string { data := #[] }) (.int .i64 0) (.slice none 0 0)) := Lib.hid (step_blk hs1 HXX.out (by omega))
      clear hs1 HCX HXX
      cases x with
      | true =>
        go_wp2_with fail
        refine (HPI.out _ (g + 1) (Nat.lt_succ_self _) _ (HC1.out.alloc _).1 (own_mono (World.ownsRow_lit (e := 9) (size := 1) w1 #[.string (bstr [120]), .string (bstr [121]), .string (bstr [122])] 3 (Nat.le_refl _) (by unfold maxLen; omega) rfl) (by have := HC1.out.1.lt.2; omega))).mono ?_
        rintro e w2 ⟨x, rfl, hx, hs2⟩
        obtain ⟨l, rfl, hl⟩ := pick_xyz hx
        have HC2 : Hid (Step B W0 v n g w w2) := Lib.hid ((HC1.out.alloc _).trans hs2)
        have HX2 : Hid (Box w2 w.heap.size (.int .i64 0) (.string { data := #[] }) (.int .i64 0) (.slice none 0 0)) := Lib.hid (step_blk hs2 (((Below.refl _ _).alloc (Nat.le_refl _) _).block _ (Array.getElem?_eq_some_iff.1 HX1.out).1 |>.trans HX1.out) (by omega))
        have HL := Lib.hid hl
        clear hs2 hx hl HC1 HX1
        go_wp2_with fail
        refine (HBE.out 3 (by omega) (by omega) _ HC2.out.1).mono ?_
        rintro e w3 ⟨y, rfl, hy3, hy4, hs3⟩
        have HC3 : Hid (Step B W0 v n g w w3) := Lib.hid (HC2.out.trans hs3)
        have HX3 : Hid (Box w3 w.heap.size (.int .i64 0) (.string { data := #[] }) (.int .i64 0) (.slice none 0 0)) := Lib.hid (step_blk hs3 HX2.out (by omega))
        clear hs3 HC2 HX2
        go_wp2_with fail
        refine (termin.var_any l y w3).mono ?_
        rintro e w4 ⟨rfl, hb4⟩
        have HC4 : Hid (Step B W0 v n g w w4) := Lib.hid (HC3.out.trans (step_below HC3.out.1 hb4))
        have HX4 : Hid (Box w4 w.heap.size (.int .i64 0) (.string { data := #[] }) (.int .i64 0) (.slice none 0 0)) := Lib.hid ((hb4.block _ (Array.getElem?_eq_some_iff.1 HX3.out).1).trans HX3.out)
        clear hb4 HC3 HX3
        obtain ⟨⟨c0, c1, c2, c3⟩, f0, f1, f2, f3⟩ := HX4.out.cells
        have HY : Hid (I64 y) := Lib.hid ⟨by omega, by omega⟩
        go_wp2
        refine bodyPost_ret (v := .agg #[.int .i64 (-1), .string (bstr l), .int .i64 y, .slice none 0 0]) (by simp [results, Try.results18, go_sem, c0, c1, c2, c3]) rfl ?_
        exact ⟨var l y, .slice none 0 0, rfl, HasR.nil _ _ _ (by unfold maxLen; omega) _, raw_var HL.out HY.out, step_set4 HC4.out (Nat.le_refl _) (by omega) (by omega) _ _ _ _⟩
      | false =>
        go_wp2_with fail
        refine (HBE.out 3 (by omega) (by omega) _ HC1.out.1).mono ?_
        rintro e w3 ⟨y, rfl, hy3, hy4, hs3⟩
        have HC3 : Hid (Step B W0 v n g w w3) := Lib.hid (HC1.out.trans hs3)
        have HX3 : Hid (Box w3 w.heap.size (.int .i64 0) (.string { data := #[] }) (.int .i64 0) (.slice none 0 0)) := Lib.hid (step_blk hs3 HX1.out (by omega))
        clear hs3 HC1 HX1
        obtain ⟨⟨c0, c1, c2, c3⟩, f0, f1, f2, f3⟩ := HX3.out.cells
        have HY : Hid (I64 y) := Lib.hid ⟨by omega, by omega⟩
        go_wp2
        refine bodyPost_ret (v := .agg #[.int .i64 y, .string (bstr []), .int .i64 0, .slice none 0 0]) (by simp [results, Try.results18, go_sem, c0, c1, c2, c3, bstr]) rfl ?_
        exact ⟨.mk y [] 0 [], .slice none 0 0, rfl, HasR.nil _ _ _ (by unfold maxLen; omega) _, raw_leaf HY.out, step_set4 HC3.out (Nat.le_refl _) (by omega) (by omega) _ _ _ _⟩
    | false =>
      go_wp2_with fail
      refine (HBE.out (ops - 3) (by omega) (by omega) _ HCX.out.1).mono ?_
      rintro e w1 ⟨x, rfl, hx0, hx1, hs1⟩
      have HC1 : Hid (Step B W0 v n g w w1) := Lib.hid (HCX.out.trans hs1)
      have HX1 : Hid (Box w1 w.heap.size (.int .i64 0) (.string { data := #[] }) (.int .i64 0) (.slice none 0 0)) := Lib.hid (step_blk hs1 HXX.out (by omega))
      have hz1 : w.heap.size + 1 ≤ w1.heap.size := (Array.getElem?_eq_some_iff.1 HX1.out).1
      clear hs1 HCX HXX
      go_wp2_with fail
      refine (HRA.out _ HC1.out.1).mono ?_
      rintro e w2 ⟨t0, va0, rfl, hh0, hr0, hs2⟩
      obtain ⟨A0, cA0, rfl, _⟩ := HasR.shape hh0 rfl
      have HSA := Lib.hid (St.start (op := 3 + x) HC1.out hz1 HX1.out hgw hs2 hh0 hr0)
      have hz2 : w1.heap.size ≤ w2.heap.size := hs2.2.size
      have HX2 : Hid (Box w2 w.heap.size (.int .i64 0) (.string { data := #[] }) (.int .i64 0) (.slice none 0 0)) := Lib.hid (step_blk hs2 HX1.out (by omega))
      have hw2 : w.heap.size < w2.heap.size := by omega
      clear hh0 hr0 hs2 HC1 HX1
      by_cases hxa : x ≤ 0
      · have d1 : decide ((3 : Int) < 3 + x) = false := decide_eq_false (by omega)
        have d2 : decide ((4 : Int) < 3 + x) = false := decide_eq_false (by omega)
        have d3 : decide (0 < x) = false := decide_eq_false (by omega)
        have d4 : ¬ (3 : Int) < 3 + x := by omega
        obtain ⟨⟨c0, c1, c2, c3⟩, f0, f1, f2, f3⟩ := HX2.out.cells
        go_wp2
        refine bodyPost_ret (v := .agg #[.int .i64 (3 + x), .string (bstr []), .int .i64 0, .slice (some ⟨w2.heap.size, 0, none⟩) 1 1]) (by simp [results, Try.results18, go_sem, c0, c1, c2, c3, hw2, bstr]) rfl ?_
        rw [set4_alloc2 _ _ hw2]
        exact fin_node HSA.out (by omega) (by omega) ⟨by omega, by omega⟩ (by simp)
      · have d1 : decide ((3 : Int) < 3 + x) = true := decide_eq_true (by omega)
        have d3 : decide (0 < x) = true := decide_eq_true (by omega)
        by_cases hxb : x ≤ 1
        · have d2 : decide ((4 : Int) < 3 + x) = false := decide_eq_false (by omega)
          have d4 : decide (1 < x) = false := decide_eq_false (by omega)
          go_wp2_with fail
          generalize hWW : (w2.alloc (.cells #[.int .i64 t0.op, .string (bstr t0.name), .int .i64 t0.sort, .slice A0 t0.args.length cA0] 26)).alloc (.cells #[.int .i64 (3 + x), .string { data := #[] }, .int .i64 0, .slice (some ⟨w2.heap.size, 0, none⟩) 1 1] 26) = W at HSA ⊢
          clear hWW
          have HSa := Lib.hid HSA.out
          have hx8a : (w2.heap.size + 1) < W.heap.size := (Array.getElem?_eq_some_iff.1 HSa.out.box).1
          obtain ⟨xsa, hoa⟩ : ∃ xs, W.ownsRow (w.heap.size + 1) 26 4 (.slice (some ⟨w2.heap.size, 0, none⟩) 1 1) 1 xs := by obtain ⟨_, xs, h, _⟩ := HSa.out.kids; exact ⟨xs, h⟩
          have HWa := Lib.hid hoa
          have HDa : Hid (Step B W0 v n g w W.drew) := Lib.hid (HSa.out.step.trans (step_below HSa.out.step.1 (Below.refl _ _).drew))
          have xba := HSa.out.box.cells.1.2.2.2
          have HDca : Hid (Cur B W0 v n g W.drew) := Lib.hid HDa.out.1
          have nea := HSa.out.ne
          have iwa : IntKind.i64.wrap (k : Int) = (k : Int) := IntWalk.i64_in _ (by omega)
          clear hoa
          refine wp_region_noPanic ?_
          refine wp_region_held_drew (S := (fun _ => True)) (by kernel_rfl) ?_ (fun hHd0 => ?_)
          · trivial
          refine wpAnyH_take (i := 0) (v := ?_) rfl (by kernel_rfl) (by kernel_rfl) (by kernel_rfl) (fun _ _ _ h => h) (Or.inl ⟨by rfl, ?_⟩) trivial ?_
          rotate_left
          · intro w hSw; (try dsimp only at hSw); go_simp <;> with_reducible rfl
          (try simp only [Act.put]); (try simp only [List.setIfInBounds_toArray]); (try simp only [List.set_cons_succ, List.set_cons_zero])
          refine wpAnyH_take (i := 2) (v := ?_) rfl (by kernel_rfl) (by kernel_rfl) (by kernel_rfl) (fun _ _ _ h => h) (Or.inl ⟨by rfl, ?_⟩) trivial ?_
          rotate_left
          · intro w hSw; (try dsimp only at hSw); go_simp <;> with_reducible rfl
          (try simp only [Act.put]); (try simp only [List.setIfInBounds_toArray]); (try simp only [List.set_cons_succ, List.set_cons_zero])
          refine wpAnyH_take (i := 3) (v := ?_) rfl (by kernel_rfl) (by kernel_rfl) (by kernel_rfl) (fun _ _ _ h => h) (Or.inl ⟨by rfl, ?_⟩) trivial ?_
          rotate_left
          · intro w hSw; (try dsimp only at hSw); go_simp <;> with_reducible rfl
          (try simp only [Act.put]); (try simp only [List.setIfInBounds_toArray]); (try simp only [List.set_cons_succ, List.set_cons_zero])
          refine wpAnyH_take (i := 4) (v := ?_) rfl (by kernel_rfl) (by kernel_rfl) (by kernel_rfl) (fun _ _ _ h => h) (Or.inl ⟨by rfl, ?_⟩) trivial ?_
          rotate_left
          · intro w hSw; (try dsimp only at hSw); go_simp <;> with_reducible rfl
          (try simp only [Act.put]); (try simp only [List.setIfInBounds_toArray]); (try simp only [List.set_cons_succ, List.set_cons_zero])
          refine wpAnyH_take (i := 5) (v := ?_) rfl (by kernel_rfl) (by kernel_rfl) (by kernel_rfl) (fun _ _ _ h => h) (Or.inl ⟨by rfl, ?_⟩) trivial ?_
          rotate_left
          · intro w hSw; (try dsimp only at hSw); go_simp <;> with_reducible rfl
          (try simp only [Act.put]); (try simp only [List.setIfInBounds_toArray]); (try simp only [List.set_cons_succ, List.set_cons_zero])
          refine wpAnyH_ready (rs := [1, 6]) (by kernel_rfl) (by simp) ?_
          refine AllReadyH.cons (o := _) rfl (fun K hK => ?_) ?_
          · go_simp
            refine hK.out _ _ ?_ (fun hHd1 => ?_)
            · trivial
            clear hK K hHd0
            (try simp only [Act.put]); (try simp only [List.setIfInBounds_toArray]); (try simp only [List.set_cons_succ, List.set_cons_zero])
            refine wpAnyH_ready (rs := [6]) (by kernel_rfl) (by simp) ?_
            refine AllReadyH.cons (o := _) rfl (fun K hK => ?_) ?_
            · (go_simp; (with_reducible refine (HRA.out _ HDca.out).mono ?_); rintro e w3a ⟨ta, vaa, rfl, hha, hra, hsa⟩; obtain ⟨Aa, ca, rfl, _⟩ := HasR.shape hha rfl; have HHa := Lib.hid hha; have HRa := Lib.hid hra; have HTa := Lib.hid hsa; have hxa := (box_grown (box_below HSa.out.box (Below.refl _ _).drew) hsa.2 (by omega)).cells.1.2.2.2; have hlta : (w2.heap.size + 1) < w3a.heap.size := (Array.getElem?_eq_some_iff.1 (box_grown (box_below HSa.out.box (Below.refl _ _).drew) hsa.2 (by omega))).1; have hza : W.heap.size ≤ w3a.heap.size := hsa.2.size; clear hha hra hsa; (try dsimp only))
              refine hK.out _ _ ?_ (fun hHd2 => ?_)
              · trivial
              clear hK K hHd1
              (try simp only [Act.put]); (try simp only [List.setIfInBounds_toArray]); (try simp only [List.set_cons_succ, List.set_cons_zero])
              refine wpAnyH_ready (rs := [7]) (by kernel_rfl) (by simp) ?_
              refine AllReadyH.cons (o := _) rfl (fun K hK => ?_) ?_
              · go_simp
                refine hK.out _ _ ?_ (fun hHd3 => ?_)
                · trivial
                clear hK K hHd2
                (try simp only [Act.put]); (try simp only [List.setIfInBounds_toArray]); (try simp only [List.set_cons_succ, List.set_cons_zero])
                refine wpAnyH_ready (rs := [8]) (by kernel_rfl) (by simp) ?_
                refine AllReadyH.cons (o := _) rfl (fun K hK => ?_) ?_
                · (refine step_append_d (by rfl) _ _ _ (by rfl) (w.heap.size + 1) 26 j0 _ 4 56 Try.underlying24 hij hy0 hy1 hy2 rfl (by omega) w2.heap.size 1 1 _ (by rfl) (own_below (own_grown (own_below HWa.out (Below.refl _ _).drew) HTa.out.2 (by omega)) ((Below.refl _ _).alloc (Nat.le_refl _) _)) ⟨w3a.heap.size, 0, none⟩ 1 1 [.int .i64 ta.op, .string (bstr ta.name), .int .i64 ta.sort, .slice Aa ta.args.length ca] (by rfl) (by rfl) (fun q x hq => termvr.one4 w3a _ _ _ _ _ q x hq) (termvr.four_one rfl rfl rfl rfl) (by unfold maxLen; omega) (by omega) (by simp; omega) ?_; intro g4a cap4a w5a howna hgra hg4a hlt4a _; have HNa := Lib.hid (HSa.out.next hgw hBg HTa.out HHa.out HRa.out HWa.out howna hgra hg4a hlt4a); obtain ⟨⟨_, _, _, y3a⟩, _, _, _, z3a⟩ := HNa.out.2.cells; clear howna hgra hg4a hlt4a)
                  refine hK.out _ _ ?_ (fun hHd4 => ?_)
                  · trivial
                  clear hK K hHd3
                  (try simp only [Act.put]); (try simp only [List.setIfInBounds_toArray]); (try simp only [List.set_cons_succ, List.set_cons_zero])
                  refine wpAnyH_take (i := 9) (v := ?_) rfl (by kernel_rfl) (by kernel_rfl) (by kernel_rfl) (fun _ _ _ h => h) (Or.inl ⟨by rfl, ?_⟩) trivial ?_
                  rotate_left
                  · intro w hSw; (try dsimp only at hSw); go_simp <;> with_reducible rfl
                  (try simp only [Act.put]); (try simp only [List.setIfInBounds_toArray]); (try simp only [List.set_cons_succ, List.set_cons_zero])
                  refine wpAnyH_ready (rs := [10]) (by kernel_rfl) (by simp) ?_
                  refine AllReadyH.cons (o := _) rfl (fun K hK => ?_) ?_
                  · go_simp
                    refine hK.out _ _ ?_ (fun hHd5 => ?_)
                    · trivial
                    clear hK K hHd4
                    (try simp only [Act.put]); (try simp only [List.setIfInBounds_toArray]); (try simp only [List.set_cons_succ, List.set_cons_zero])
                    refine wpAnyH_done (by kernel_rfl) ?_ _
                    refine NoPanic.normal ?_
                    have HS1a : Hid (St B n g W0 v w k (3 + x) g4a 2 cap4a [t0, ta] (w2.heap.size + 1) (w5a.setCell ⟨w2.heap.size + 1, 3, none⟩ (.slice (some ⟨g4a, 0, none⟩) 2 cap4a))) := Lib.hid HNa.out.1
                    clear HNa y3a z3a
                    generalize w5a.setCell ⟨w2.heap.size + 1, 3, none⟩ (.slice (some ⟨g4a, 0, none⟩) 2 cap4a) = W5a at HS1a ⊢
                    obtain ⟨⟨c0, c1, c2, c3⟩, f0, f1, f2, f3⟩ := HS1a.out.res.cells
                    obtain ⟨⟨b0, b1, b2, b3⟩, _⟩ := HS1a.out.box.cells
                    go_wp2
                    refine bodyPost_ret (v := .agg #[.int .i64 (3 + x), .string (bstr []), .int .i64 0, .slice (some ⟨g4a, 0, none⟩) 2 cap4a]) (by simp [results, Try.results18, go_sem, c0, c1, c2, c3, bstr]) rfl ?_
                    exact fin_node HS1a.out (by omega) (by omega) ⟨by omega, by omega⟩ (by simp)
                  exact AllReadyH.nil
                exact AllReadyH.nil
              exact AllReadyH.nil
            exact AllReadyH.nil
          refine AllReadyH.cons (o := _) rfl (fun K hK => ?_) ?_
          · (go_simp; (with_reducible refine (HRA.out _ HDca.out).mono ?_); rintro e w3a ⟨ta, vaa, rfl, hha, hra, hsa⟩; obtain ⟨Aa, ca, rfl, _⟩ := HasR.shape hha rfl; have HHa := Lib.hid hha; have HRa := Lib.hid hra; have HTa := Lib.hid hsa; have hxa := (box_grown (box_below HSa.out.box (Below.refl _ _).drew) hsa.2 (by omega)).cells.1.2.2.2; have hlta : (w2.heap.size + 1) < w3a.heap.size := (Array.getElem?_eq_some_iff.1 (box_grown (box_below HSa.out.box (Below.refl _ _).drew) hsa.2 (by omega))).1; have hza : W.heap.size ≤ w3a.heap.size := hsa.2.size; clear hha hra hsa; (try dsimp only))
            refine hK.out _ _ ?_ (fun hHd6 => ?_)
            · trivial
            clear hK K hHd0
            (try simp only [Act.put]); (try simp only [List.setIfInBounds_toArray]); (try simp only [List.set_cons_succ, List.set_cons_zero])
            refine wpAnyH_ready (rs := [1, 7]) (by kernel_rfl) (by simp) ?_
            refine AllReadyH.cons (o := _) rfl (fun K hK => ?_) ?_
            · go_simp
              refine hK.out _ _ ?_ (fun hHd7 => ?_)
              · trivial
              clear hK K hHd6
              (try simp only [Act.put]); (try simp only [List.setIfInBounds_toArray]); (try simp only [List.set_cons_succ, List.set_cons_zero])
              refine wpAnyH_ready (rs := [7]) (by kernel_rfl) (by simp) ?_
              refine AllReadyH.cons (o := _) rfl (fun K hK => ?_) ?_
              · go_simp
                refine hK.out _ _ ?_ (fun hHd8 => ?_)
                · trivial
                clear hK K hHd7
                (try simp only [Act.put]); (try simp only [List.setIfInBounds_toArray]); (try simp only [List.set_cons_succ, List.set_cons_zero])
                refine wpAnyH_ready (rs := [8]) (by kernel_rfl) (by simp) ?_
                refine AllReadyH.cons (o := _) rfl (fun K hK => ?_) ?_
                · (refine step_append_d (by rfl) _ _ _ (by rfl) (w.heap.size + 1) 26 j0 _ 4 56 Try.underlying24 hij hy0 hy1 hy2 rfl (by omega) w2.heap.size 1 1 _ (by rfl) (own_below (own_grown (own_below HWa.out (Below.refl _ _).drew) HTa.out.2 (by omega)) ((Below.refl _ _).alloc (Nat.le_refl _) _)) ⟨w3a.heap.size, 0, none⟩ 1 1 [.int .i64 ta.op, .string (bstr ta.name), .int .i64 ta.sort, .slice Aa ta.args.length ca] (by rfl) (by rfl) (fun q x hq => termvr.one4 w3a _ _ _ _ _ q x hq) (termvr.four_one rfl rfl rfl rfl) (by unfold maxLen; omega) (by omega) (by simp; omega) ?_; intro g4a cap4a w5a howna hgra hg4a hlt4a _; have HNa := Lib.hid (HSa.out.next hgw hBg HTa.out HHa.out HRa.out HWa.out howna hgra hg4a hlt4a); obtain ⟨⟨_, _, _, y3a⟩, _, _, _, z3a⟩ := HNa.out.2.cells; clear howna hgra hg4a hlt4a)
                  refine hK.out _ _ ?_ (fun hHd9 => ?_)
                  · trivial
                  clear hK K hHd8
                  (try simp only [Act.put]); (try simp only [List.setIfInBounds_toArray]); (try simp only [List.set_cons_succ, List.set_cons_zero])
                  refine wpAnyH_take (i := 9) (v := ?_) rfl (by kernel_rfl) (by kernel_rfl) (by kernel_rfl) (fun _ _ _ h => h) (Or.inl ⟨by rfl, ?_⟩) trivial ?_
                  rotate_left
                  · intro w hSw; (try dsimp only at hSw); go_simp <;> with_reducible rfl
                  (try simp only [Act.put]); (try simp only [List.setIfInBounds_toArray]); (try simp only [List.set_cons_succ, List.set_cons_zero])
                  refine wpAnyH_ready (rs := [10]) (by kernel_rfl) (by simp) ?_
                  refine AllReadyH.cons (o := _) rfl (fun K hK => ?_) ?_
                  · go_simp
                    refine hK.out _ _ ?_ (fun hHd10 => ?_)
                    · trivial
                    clear hK K hHd9
                    (try simp only [Act.put]); (try simp only [List.setIfInBounds_toArray]); (try simp only [List.set_cons_succ, List.set_cons_zero])
                    refine wpAnyH_done (by kernel_rfl) ?_ _
                    refine NoPanic.normal ?_
                    have HS1a : Hid (St B n g W0 v w k (3 + x) g4a 2 cap4a [t0, ta] (w2.heap.size + 1) (w5a.setCell ⟨w2.heap.size + 1, 3, none⟩ (.slice (some ⟨g4a, 0, none⟩) 2 cap4a))) := Lib.hid HNa.out.1
                    clear HNa y3a z3a
                    generalize w5a.setCell ⟨w2.heap.size + 1, 3, none⟩ (.slice (some ⟨g4a, 0, none⟩) 2 cap4a) = W5a at HS1a ⊢
                    obtain ⟨⟨c0, c1, c2, c3⟩, f0, f1, f2, f3⟩ := HS1a.out.res.cells
                    obtain ⟨⟨b0, b1, b2, b3⟩, _⟩ := HS1a.out.box.cells
                    go_wp2
                    refine bodyPost_ret (v := .agg #[.int .i64 (3 + x), .string (bstr []), .int .i64 0, .slice (some ⟨g4a, 0, none⟩) 2 cap4a]) (by simp [results, Try.results18, go_sem, c0, c1, c2, c3, bstr]) rfl ?_
                    exact fin_node HS1a.out (by omega) (by omega) ⟨by omega, by omega⟩ (by simp)
                  exact AllReadyH.nil
                exact AllReadyH.nil
              exact AllReadyH.nil
            refine AllReadyH.cons (o := _) rfl (fun K hK => ?_) ?_
            · go_simp
              refine hK.out _ _ ?_ (fun hHd11 => ?_)
              · trivial
              clear hK K hHd6
              (try simp only [Act.put]); (try simp only [List.setIfInBounds_toArray]); (try simp only [List.set_cons_succ, List.set_cons_zero])
              refine wpAnyH_ready (rs := [1]) (by kernel_rfl) (by simp) ?_
              refine AllReadyH.cons (o := _) rfl (fun K hK => ?_) ?_
              · go_simp
                refine hK.out _ _ ?_ (fun hHd12 => ?_)
                · trivial
                clear hK K hHd11
                (try simp only [Act.put]); (try simp only [List.setIfInBounds_toArray]); (try simp only [List.set_cons_succ, List.set_cons_zero])
                refine wpAnyH_ready (rs := [8]) (by kernel_rfl) (by simp) ?_
                refine AllReadyH.cons (o := _) rfl (fun K hK => ?_) ?_
                · (refine step_append_d (by rfl) _ _ _ (by rfl) (w.heap.size + 1) 26 j0 _ 4 56 Try.underlying24 hij hy0 hy1 hy2 rfl (by omega) w2.heap.size 1 1 _ (by rfl) (own_below (own_grown (own_below HWa.out (Below.refl _ _).drew) HTa.out.2 (by omega)) ((Below.refl _ _).alloc (Nat.le_refl _) _)) ⟨w3a.heap.size, 0, none⟩ 1 1 [.int .i64 ta.op, .string (bstr ta.name), .int .i64 ta.sort, .slice Aa ta.args.length ca] (by rfl) (by rfl) (fun q x hq => termvr.one4 w3a _ _ _ _ _ q x hq) (termvr.four_one rfl rfl rfl rfl) (by unfold maxLen; omega) (by omega) (by simp; omega) ?_; intro g4a cap4a w5a howna hgra hg4a hlt4a _; have HNa := Lib.hid (HSa.out.next hgw hBg HTa.out HHa.out HRa.out HWa.out howna hgra hg4a hlt4a); obtain ⟨⟨_, _, _, y3a⟩, _, _, _, z3a⟩ := HNa.out.2.cells; clear howna hgra hg4a hlt4a)
                  refine hK.out _ _ ?_ (fun hHd13 => ?_)
                  · trivial
                  clear hK K hHd12
                  (try simp only [Act.put]); (try simp only [List.setIfInBounds_toArray]); (try simp only [List.set_cons_succ, List.set_cons_zero])
                  refine wpAnyH_take (i := 9) (v := ?_) rfl (by kernel_rfl) (by kernel_rfl) (by kernel_rfl) (fun _ _ _ h => h) (Or.inl ⟨by rfl, ?_⟩) trivial ?_
                  rotate_left
                  · intro w hSw; (try dsimp only at hSw); go_simp <;> with_reducible rfl
                  (try simp only [Act.put]); (try simp only [List.setIfInBounds_toArray]); (try simp only [List.set_cons_succ, List.set_cons_zero])
                  refine wpAnyH_ready (rs := [10]) (by kernel_rfl) (by simp) ?_
                  refine AllReadyH.cons (o := _) rfl (fun K hK => ?_) ?_
                  · go_simp
                    refine hK.out _ _ ?_ (fun hHd14 => ?_)
                    · trivial
                    clear hK K hHd13
                    (try simp only [Act.put]); (try simp only [List.setIfInBounds_toArray]); (try simp only [List.set_cons_succ, List.set_cons_zero])
                    refine wpAnyH_done (by kernel_rfl) ?_ _
                    refine NoPanic.normal ?_
                    have HS1a : Hid (St B n g W0 v w k (3 + x) g4a 2 cap4a [t0, ta] (w2.heap.size + 1) (w5a.setCell ⟨w2.heap.size + 1, 3, none⟩ (.slice (some ⟨g4a, 0, none⟩) 2 cap4a))) := Lib.hid HNa.out.1
                    clear HNa y3a z3a
                    generalize w5a.setCell ⟨w2.heap.size + 1, 3, none⟩ (.slice (some ⟨g4a, 0, none⟩) 2 cap4a) = W5a at HS1a ⊢
                    obtain ⟨⟨c0, c1, c2, c3⟩, f0, f1, f2, f3⟩ := HS1a.out.res.cells
                    obtain ⟨⟨b0, b1, b2, b3⟩, _⟩ := HS1a.out.box.cells
                    go_wp2
                    refine bodyPost_ret (v := .agg #[.int .i64 (3 + x), .string (bstr []), .int .i64 0, .slice (some ⟨g4a, 0, none⟩) 2 cap4a]) (by simp [results, Try.results18, go_sem, c0, c1, c2, c3, bstr]) rfl ?_
                    exact fin_node HS1a.out (by omega) (by omega) ⟨by omega, by omega⟩ (by simp)
                  exact AllReadyH.nil
                exact AllReadyH.nil
              exact AllReadyH.nil
            exact AllReadyH.nil
          exact AllReadyH.nil
        · have d2 : decide ((4 : Int) < 3 + x) = true := decide_eq_true (by omega)
          have d4 : decide (1 < x) = true := decide_eq_true (by omega)
          go_wp2_with fail
          generalize hWW : (w2.alloc (.cells #[.int .i64 t0.op, .string (bstr t0.name), .int .i64 t0.sort, .slice A0 t0.args.length cA0] 26)).alloc (.cells #[.int .i64 (3 + x), .string { data := #[] }, .int .i64 0, .slice (some ⟨w2.heap.size, 0, none⟩) 1 1] 26) = W at HSA ⊢
          clear hWW
          have HSa := Lib.hid HSA.out
          have hx8a : (w2.heap.size + 1) < W.heap.size := (Array.getElem?_eq_some_iff.1 HSa.out.box).1
          obtain ⟨xsa, hoa⟩ : ∃ xs, W.ownsRow (w.heap.size + 1) 26 4 (.slice (some ⟨w2.heap.size, 0, none⟩) 1 1) 1 xs := by obtain ⟨_, xs, h, _⟩ := HSa.out.kids; exact ⟨xs, h⟩
          have HWa := Lib.hid hoa
          have HDa : Hid (Step B W0 v n g w W.drew) := Lib.hid (HSa.out.step.trans (step_below HSa.out.step.1 (Below.refl _ _).drew))
          have xba := HSa.out.box.cells.1.2.2.2
          have HDca : Hid (Cur B W0 v n g W.drew) := Lib.hid HDa.out.1
          have nea := HSa.out.ne
          have iwa : IntKind.i64.wrap (k : Int) = (k : Int) := IntWalk.i64_in _ (by omega)
          clear hoa
          refine wp_region_noPanic ?_
          refine wp_region_held_drew (S := (fun _ => True)) (by kernel_rfl) ?_ (fun hHd0 => ?_)
          · trivial
          refine wpAnyH_take (i := 0) (v := ?_) rfl (by kernel_rfl) (by kernel_rfl) (by kernel_rfl) (fun _ _ _ h => h) (Or.inl ⟨by rfl, ?_⟩) trivial ?_
          rotate_left
          · intro w hSw; (try dsimp only at hSw); go_simp <;> with_reducible rfl
          (try simp only [Act.put]); (try simp only [List.setIfInBounds_toArray]); (try simp only [List.set_cons_succ, List.set_cons_zero])
          refine wpAnyH_take (i := 2) (v := ?_) rfl (by kernel_rfl) (by kernel_rfl) (by kernel_rfl) (fun _ _ _ h => h) (Or.inl ⟨by rfl, ?_⟩) trivial ?_
          rotate_left
          · intro w hSw; (try dsimp only at hSw); go_simp <;> with_reducible rfl
          (try simp only [Act.put]); (try simp only [List.setIfInBounds_toArray]); (try simp only [List.set_cons_succ, List.set_cons_zero])
          refine wpAnyH_take (i := 3) (v := ?_) rfl (by kernel_rfl) (by kernel_rfl) (by kernel_rfl) (fun _ _ _ h => h) (Or.inl ⟨by rfl, ?_⟩) trivial ?_
          rotate_left
          · intro w hSw; (try dsimp only at hSw); go_simp <;> with_reducible rfl
          (try simp only [Act.put]); (try simp only [List.setIfInBounds_toArray]); (try simp only [List.set_cons_succ, List.set_cons_zero])
          refine wpAnyH_take (i := 4) (v := ?_) rfl (by kernel_rfl) (by kernel_rfl) (by kernel_rfl) (fun _ _ _ h => h) (Or.inl ⟨by rfl, ?_⟩) trivial ?_
          rotate_left
          · intro w hSw; (try dsimp only at hSw); go_simp <;> with_reducible rfl
          (try simp only [Act.put]); (try simp only [List.setIfInBounds_toArray]); (try simp only [List.set_cons_succ, List.set_cons_zero])
          refine wpAnyH_take (i := 5) (v := ?_) rfl (by kernel_rfl) (by kernel_rfl) (by kernel_rfl) (fun _ _ _ h => h) (Or.inl ⟨by rfl, ?_⟩) trivial ?_
          rotate_left
          · intro w hSw; (try dsimp only at hSw); go_simp <;> with_reducible rfl
          (try simp only [Act.put]); (try simp only [List.setIfInBounds_toArray]); (try simp only [List.set_cons_succ, List.set_cons_zero])
          refine wpAnyH_ready (rs := [1, 6]) (by kernel_rfl) (by simp) ?_
          refine AllReadyH.cons (o := _) rfl (fun K hK => ?_) ?_
          · go_simp
            refine hK.out _ _ ?_ (fun hHd1 => ?_)
            · trivial
            clear hK K hHd0
            (try simp only [Act.put]); (try simp only [List.setIfInBounds_toArray]); (try simp only [List.set_cons_succ, List.set_cons_zero])
            refine wpAnyH_ready (rs := [6]) (by kernel_rfl) (by simp) ?_
            refine AllReadyH.cons (o := _) rfl (fun K hK => ?_) ?_
            · (go_simp; (with_reducible refine (HRA.out _ HDca.out).mono ?_); rintro e w3a ⟨ta, vaa, rfl, hha, hra, hsa⟩; obtain ⟨Aa, ca, rfl, _⟩ := HasR.shape hha rfl; have HHa := Lib.hid hha; have HRa := Lib.hid hra; have HTa := Lib.hid hsa; have hxa := (box_grown (box_below HSa.out.box (Below.refl _ _).drew) hsa.2 (by omega)).cells.1.2.2.2; have hlta : (w2.heap.size + 1) < w3a.heap.size := (Array.getElem?_eq_some_iff.1 (box_grown (box_below HSa.out.box (Below.refl _ _).drew) hsa.2 (by omega))).1; have hza : W.heap.size ≤ w3a.heap.size := hsa.2.size; clear hha hra hsa; (try dsimp only))
              refine hK.out _ _ ?_ (fun hHd2 => ?_)
              · trivial
              clear hK K hHd1
              (try simp only [Act.put]); (try simp only [List.setIfInBounds_toArray]); (try simp only [List.set_cons_succ, List.set_cons_zero])
              refine wpAnyH_ready (rs := [7]) (by kernel_rfl) (by simp) ?_
              refine AllReadyH.cons (o := _) rfl (fun K hK => ?_) ?_
              · go_simp
                refine hK.out _ _ ?_ (fun hHd3 => ?_)
                · trivial
                clear hK K hHd2
                (try simp only [Act.put]); (try simp only [List.setIfInBounds_toArray]); (try simp only [List.set_cons_succ, List.set_cons_zero])
                refine wpAnyH_ready (rs := [8]) (by kernel_rfl) (by simp) ?_
                refine AllReadyH.cons (o := _) rfl (fun K hK => ?_) ?_
                · (refine step_append_d (by rfl) _ _ _ (by rfl) (w.heap.size + 1) 26 j0 _ 4 56 Try.underlying24 hij hy0 hy1 hy2 rfl (by omega) w2.heap.size 1 1 _ (by rfl) (own_below (own_grown (own_below HWa.out (Below.refl _ _).drew) HTa.out.2 (by omega)) ((Below.refl _ _).alloc (Nat.le_refl _) _)) ⟨w3a.heap.size, 0, none⟩ 1 1 [.int .i64 ta.op, .string (bstr ta.name), .int .i64 ta.sort, .slice Aa ta.args.length ca] (by rfl) (by rfl) (fun q x hq => termvr.one4 w3a _ _ _ _ _ q x hq) (termvr.four_one rfl rfl rfl rfl) (by unfold maxLen; omega) (by omega) (by simp; omega) ?_; intro g4a cap4a w5a howna hgra hg4a hlt4a _; have HNa := Lib.hid (HSa.out.next hgw hBg HTa.out HHa.out HRa.out HWa.out howna hgra hg4a hlt4a); obtain ⟨⟨_, _, _, y3a⟩, _, _, _, z3a⟩ := HNa.out.2.cells; clear howna hgra hg4a hlt4a)
                  refine hK.out _ _ ?_ (fun hHd4 => ?_)
                  · trivial
                  clear hK K hHd3
                  (try simp only [Act.put]); (try simp only [List.setIfInBounds_toArray]); (try simp only [List.set_cons_succ, List.set_cons_zero])
                  refine wpAnyH_take (i := 9) (v := ?_) rfl (by kernel_rfl) (by kernel_rfl) (by kernel_rfl) (fun _ _ _ h => h) (Or.inl ⟨by rfl, ?_⟩) trivial ?_
                  rotate_left
                  · intro w hSw; (try dsimp only at hSw); go_simp <;> with_reducible rfl
                  (try simp only [Act.put]); (try simp only [List.setIfInBounds_toArray]); (try simp only [List.set_cons_succ, List.set_cons_zero])
                  refine wpAnyH_ready (rs := [10]) (by kernel_rfl) (by simp) ?_
                  refine AllReadyH.cons (o := _) rfl (fun K hK => ?_) ?_
                  · go_simp
                    refine hK.out _ _ ?_ (fun hHd5 => ?_)
                    · trivial
                    clear hK K hHd4
                    (try simp only [Act.put]); (try simp only [List.setIfInBounds_toArray]); (try simp only [List.set_cons_succ, List.set_cons_zero])
                    refine wpAnyH_done (by kernel_rfl) ?_ _
                    refine NoPanic.normal ?_
                    have HS1a : Hid (St B n g W0 v w k (3 + x) g4a 2 cap4a [t0, ta] (w2.heap.size + 1) (w5a.setCell ⟨w2.heap.size + 1, 3, none⟩ (.slice (some ⟨g4a, 0, none⟩) 2 cap4a))) := Lib.hid HNa.out.1
                    clear HNa y3a z3a
                    generalize w5a.setCell ⟨w2.heap.size + 1, 3, none⟩ (.slice (some ⟨g4a, 0, none⟩) 2 cap4a) = W5a at HS1a ⊢
                    go_wp2_with fail
                    refine (HON.out 4 (by omega) (by omega) _ HS1a.out.step.1).mono ?_
                    rintro e w6 ⟨y, rfl, hs6⟩
                    have HSb := Lib.hid (HS1a.out.cur hs6 hgw)
                    clear hs6 HS1a
                    cases y with
                    | false =>
                      obtain ⟨⟨c0, c1, c2, c3⟩, f0, f1, f2, f3⟩ := HSb.out.res.cells
                      obtain ⟨⟨b0, b1, b2, b3⟩, _⟩ := HSb.out.box.cells
                      go_wp2
                      refine bodyPost_ret (v := .agg #[.int .i64 (3 + x), .string (bstr []), .int .i64 0, .slice (some ⟨g4a, 0, none⟩) 2 cap4a]) (by simp [results, Try.results18, go_sem, c0, c1, c2, c3, bstr]) rfl ?_
                      exact fin_node HSb.out (by omega) (by omega) ⟨by omega, by omega⟩ (by simp)
                    | true =>
                      go_wp2_with fail
                      have hx8b : (w2.heap.size + 1) < w6.heap.size := (Array.getElem?_eq_some_iff.1 HSb.out.box).1
                      obtain ⟨xsb, hob⟩ : ∃ xs, w6.ownsRow (w.heap.size + 1) 26 4 (.slice (some ⟨g4a, 0, none⟩) 2 cap4a) 2 xs := by obtain ⟨_, xs, h, _⟩ := HSb.out.kids; exact ⟨xs, h⟩
                      have HWb := Lib.hid hob
                      have HDb : Hid (Step B W0 v n g w w6.drew) := Lib.hid (HSb.out.step.trans (step_below HSb.out.step.1 (Below.refl _ _).drew))
                      have xbb := HSb.out.box.cells.1.2.2.2
                      have HDcb : Hid (Cur B W0 v n g w6.drew) := Lib.hid HDb.out.1
                      have neb := HSb.out.ne
                      have iwb : IntKind.i64.wrap (k : Int) = (k : Int) := IntWalk.i64_in _ (by omega)
                      clear hob
                      refine wp_region_noPanic ?_
                      refine wp_region_held_drew (S := (fun _ => True)) (by kernel_rfl) ?_ (fun hHd0 => ?_)
                      · trivial
                      refine wpAnyH_take (i := 0) (v := ?_) rfl (by kernel_rfl) (by kernel_rfl) (by kernel_rfl) (fun _ _ _ h => h) (Or.inl ⟨by rfl, ?_⟩) trivial ?_
                      rotate_left
                      · intro w hSw; (try dsimp only at hSw); go_simp <;> with_reducible rfl
                      (try simp only [Act.put]); (try simp only [List.setIfInBounds_toArray]); (try simp only [List.set_cons_succ, List.set_cons_zero])
                      refine wpAnyH_take (i := 2) (v := ?_) rfl (by kernel_rfl) (by kernel_rfl) (by kernel_rfl) (fun _ _ _ h => h) (Or.inl ⟨by rfl, ?_⟩) trivial ?_
                      rotate_left
                      · intro w hSw; (try dsimp only at hSw); go_simp <;> with_reducible rfl
                      (try simp only [Act.put]); (try simp only [List.setIfInBounds_toArray]); (try simp only [List.set_cons_succ, List.set_cons_zero])
                      refine wpAnyH_take (i := 3) (v := ?_) rfl (by kernel_rfl) (by kernel_rfl) (by kernel_rfl) (fun _ _ _ h => h) (Or.inl ⟨by rfl, ?_⟩) trivial ?_
                      rotate_left
                      · intro w hSw; (try dsimp only at hSw); go_simp <;> with_reducible rfl
                      (try simp only [Act.put]); (try simp only [List.setIfInBounds_toArray]); (try simp only [List.set_cons_succ, List.set_cons_zero])
                      refine wpAnyH_take (i := 4) (v := ?_) rfl (by kernel_rfl) (by kernel_rfl) (by kernel_rfl) (fun _ _ _ h => h) (Or.inl ⟨by rfl, ?_⟩) trivial ?_
                      rotate_left
                      · intro w hSw; (try dsimp only at hSw); go_simp <;> with_reducible rfl
                      (try simp only [Act.put]); (try simp only [List.setIfInBounds_toArray]); (try simp only [List.set_cons_succ, List.set_cons_zero])
                      refine wpAnyH_take (i := 5) (v := ?_) rfl (by kernel_rfl) (by kernel_rfl) (by kernel_rfl) (fun _ _ _ h => h) (Or.inl ⟨by rfl, ?_⟩) trivial ?_
                      rotate_left
                      · intro w hSw; (try dsimp only at hSw); go_simp <;> with_reducible rfl
                      (try simp only [Act.put]); (try simp only [List.setIfInBounds_toArray]); (try simp only [List.set_cons_succ, List.set_cons_zero])
                      refine wpAnyH_ready (rs := [1, 6]) (by kernel_rfl) (by simp) ?_
                      refine AllReadyH.cons (o := _) rfl (fun K hK => ?_) ?_
                      · go_simp
                        refine hK.out _ _ ?_ (fun hHd1 => ?_)
                        · trivial
                        clear hK K hHd0
                        (try simp only [Act.put]); (try simp only [List.setIfInBounds_toArray]); (try simp only [List.set_cons_succ, List.set_cons_zero])
                        refine wpAnyH_ready (rs := [6]) (by kernel_rfl) (by simp) ?_
                        refine AllReadyH.cons (o := _) rfl (fun K hK => ?_) ?_
                        · (go_simp; (with_reducible refine (HRA.out _ HDcb.out).mono ?_); rintro e w3b ⟨tb, vab, rfl, hhb, hrb, hsb⟩; obtain ⟨Ab, cb, rfl, _⟩ := HasR.shape hhb rfl; have HHb := Lib.hid hhb; have HRb := Lib.hid hrb; have HTb := Lib.hid hsb; have hxb := (box_grown (box_below HSb.out.box (Below.refl _ _).drew) hsb.2 (by omega)).cells.1.2.2.2; have hltb : (w2.heap.size + 1) < w3b.heap.size := (Array.getElem?_eq_some_iff.1 (box_grown (box_below HSb.out.box (Below.refl _ _).drew) hsb.2 (by omega))).1; have hzb : w6.heap.size ≤ w3b.heap.size := hsb.2.size; clear hhb hrb hsb; (try dsimp only))
                          refine hK.out _ _ ?_ (fun hHd2 => ?_)
                          · trivial
                          clear hK K hHd1
                          (try simp only [Act.put]); (try simp only [List.setIfInBounds_toArray]); (try simp only [List.set_cons_succ, List.set_cons_zero])
                          refine wpAnyH_ready (rs := [7]) (by kernel_rfl) (by simp) ?_
                          refine AllReadyH.cons (o := _) rfl (fun K hK => ?_) ?_
                          · go_simp
                            refine hK.out _ _ ?_ (fun hHd3 => ?_)
                            · trivial
                            clear hK K hHd2
                            (try simp only [Act.put]); (try simp only [List.setIfInBounds_toArray]); (try simp only [List.set_cons_succ, List.set_cons_zero])
                            refine wpAnyH_ready (rs := [8]) (by kernel_rfl) (by simp) ?_
                            refine AllReadyH.cons (o := _) rfl (fun K hK => ?_) ?_
                            · (refine step_append_d (by rfl) _ _ _ (by rfl) (w.heap.size + 1) 26 j0 _ 4 56 Try.underlying24 hij hy0 hy1 hy2 rfl (by omega) g4a 2 cap4a _ (by rfl) (own_below (own_grown (own_below HWb.out (Below.refl _ _).drew) HTb.out.2 (by omega)) ((Below.refl _ _).alloc (Nat.le_refl _) _)) ⟨w3b.heap.size, 0, none⟩ 1 1 [.int .i64 tb.op, .string (bstr tb.name), .int .i64 tb.sort, .slice Ab tb.args.length cb] (by rfl) (by rfl) (fun q x hq => termvr.one4 w3b _ _ _ _ _ q x hq) (termvr.four_one rfl rfl rfl rfl) (by unfold maxLen; omega) (by omega) (by simp; omega) ?_; intro g4b cap4b w5b hownb hgrb hg4b hlt4b _; have HNb := Lib.hid (HSb.out.next hgw hBg HTb.out HHb.out HRb.out HWb.out hownb hgrb hg4b hlt4b); obtain ⟨⟨_, _, _, y3b⟩, _, _, _, z3b⟩ := HNb.out.2.cells; clear hownb hgrb hg4b hlt4b)
                              refine hK.out _ _ ?_ (fun hHd4 => ?_)
                              · trivial
                              clear hK K hHd3
                              (try simp only [Act.put]); (try simp only [List.setIfInBounds_toArray]); (try simp only [List.set_cons_succ, List.set_cons_zero])
                              refine wpAnyH_take (i := 9) (v := ?_) rfl (by kernel_rfl) (by kernel_rfl) (by kernel_rfl) (fun _ _ _ h => h) (Or.inl ⟨by rfl, ?_⟩) trivial ?_
                              rotate_left
                              · intro w hSw; (try dsimp only at hSw); go_simp <;> with_reducible rfl
                              (try simp only [Act.put]); (try simp only [List.setIfInBounds_toArray]); (try simp only [List.set_cons_succ, List.set_cons_zero])
                              refine wpAnyH_ready (rs := [10]) (by kernel_rfl) (by simp) ?_
                              refine AllReadyH.cons (o := _) rfl (fun K hK => ?_) ?_
                              · go_simp
                                refine hK.out _ _ ?_ (fun hHd5 => ?_)
                                · trivial
                                clear hK K hHd4
                                (try simp only [Act.put]); (try simp only [List.setIfInBounds_toArray]); (try simp only [List.set_cons_succ, List.set_cons_zero])
                                refine wpAnyH_done (by kernel_rfl) ?_ _
                                refine NoPanic.normal ?_
                                have HS1b : Hid (St B n g W0 v w k (3 + x) g4b 3 cap4b [t0, ta, tb] (w2.heap.size + 1) (w5b.setCell ⟨w2.heap.size + 1, 3, none⟩ (.slice (some ⟨g4b, 0, none⟩) 3 cap4b))) := Lib.hid HNb.out.1
                                clear HNb y3b z3b
                                generalize w5b.setCell ⟨w2.heap.size + 1, 3, none⟩ (.slice (some ⟨g4b, 0, none⟩) 3 cap4b) = W5b at HS1b ⊢
                                obtain ⟨⟨c0, c1, c2, c3⟩, f0, f1, f2, f3⟩ := HS1b.out.res.cells
                                obtain ⟨⟨b0, b1, b2, b3⟩, _⟩ := HS1b.out.box.cells
                                go_wp2
                                refine bodyPost_ret (v := .agg #[.int .i64 (3 + x), .string (bstr []), .int .i64 0, .slice (some ⟨g4b, 0, none⟩) 3 cap4b]) (by simp [results, Try.results18, go_sem, c0, c1, c2, c3, bstr]) rfl ?_
                                exact fin_node HS1b.out (by omega) (by omega) ⟨by omega, by omega⟩ (by simp)
                              exact AllReadyH.nil
                            exact AllReadyH.nil
                          exact AllReadyH.nil
                        exact AllReadyH.nil
                      refine AllReadyH.cons (o := _) rfl (fun K hK => ?_) ?_
                      · (go_simp; (with_reducible refine (HRA.out _ HDcb.out).mono ?_); rintro e w3b ⟨tb, vab, rfl, hhb, hrb, hsb⟩; obtain ⟨Ab, cb, rfl, _⟩ := HasR.shape hhb rfl; have HHb := Lib.hid hhb; have HRb := Lib.hid hrb; have HTb := Lib.hid hsb; have hxb := (box_grown (box_below HSb.out.box (Below.refl _ _).drew) hsb.2 (by omega)).cells.1.2.2.2; have hltb : (w2.heap.size + 1) < w3b.heap.size := (Array.getElem?_eq_some_iff.1 (box_grown (box_below HSb.out.box (Below.refl _ _).drew) hsb.2 (by omega))).1; have hzb : w6.heap.size ≤ w3b.heap.size := hsb.2.size; clear hhb hrb hsb; (try dsimp only))
                        refine hK.out _ _ ?_ (fun hHd6 => ?_)
                        · trivial
                        clear hK K hHd0
                        (try simp only [Act.put]); (try simp only [List.setIfInBounds_toArray]); (try simp only [List.set_cons_succ, List.set_cons_zero])
                        refine wpAnyH_ready (rs := [1, 7]) (by kernel_rfl) (by simp) ?_
                        refine AllReadyH.cons (o := _) rfl (fun K hK => ?_) ?_
                        · go_simp
                          refine hK.out _ _ ?_ (fun hHd7 => ?_)
                          · trivial
                          clear hK K hHd6
                          (try simp only [Act.put]); (try simp only [List.setIfInBounds_toArray]); (try simp only [List.set_cons_succ, List.set_cons_zero])
                          refine wpAnyH_ready (rs := [7]) (by kernel_rfl) (by simp) ?_
                          refine AllReadyH.cons (o := _) rfl (fun K hK => ?_) ?_
                          · go_simp
                            refine hK.out _ _ ?_ (fun hHd8 => ?_)
                            · trivial
                            clear hK K hHd7
                            (try simp only [Act.put]); (try simp only [List.setIfInBounds_toArray]); (try simp only [List.set_cons_succ, List.set_cons_zero])
                            refine wpAnyH_ready (rs := [8]) (by kernel_rfl) (by simp) ?_
                            refine AllReadyH.cons (o := _) rfl (fun K hK => ?_) ?_
                            · (refine step_append_d (by rfl) _ _ _ (by rfl) (w.heap.size + 1) 26 j0 _ 4 56 Try.underlying24 hij hy0 hy1 hy2 rfl (by omega) g4a 2 cap4a _ (by rfl) (own_below (own_grown (own_below HWb.out (Below.refl _ _).drew) HTb.out.2 (by omega)) ((Below.refl _ _).alloc (Nat.le_refl _) _)) ⟨w3b.heap.size, 0, none⟩ 1 1 [.int .i64 tb.op, .string (bstr tb.name), .int .i64 tb.sort, .slice Ab tb.args.length cb] (by rfl) (by rfl) (fun q x hq => termvr.one4 w3b _ _ _ _ _ q x hq) (termvr.four_one rfl rfl rfl rfl) (by unfold maxLen; omega) (by omega) (by simp; omega) ?_; intro g4b cap4b w5b hownb hgrb hg4b hlt4b _; have HNb := Lib.hid (HSb.out.next hgw hBg HTb.out HHb.out HRb.out HWb.out hownb hgrb hg4b hlt4b); obtain ⟨⟨_, _, _, y3b⟩, _, _, _, z3b⟩ := HNb.out.2.cells; clear hownb hgrb hg4b hlt4b)
                              refine hK.out _ _ ?_ (fun hHd9 => ?_)
                              · trivial
                              clear hK K hHd8
                              (try simp only [Act.put]); (try simp only [List.setIfInBounds_toArray]); (try simp only [List.set_cons_succ, List.set_cons_zero])
                              refine wpAnyH_take (i := 9) (v := ?_) rfl (by kernel_rfl) (by kernel_rfl) (by kernel_rfl) (fun _ _ _ h => h) (Or.inl ⟨by rfl, ?_⟩) trivial ?_
                              rotate_left
                              · intro w hSw; (try dsimp only at hSw); go_simp <;> with_reducible rfl
                              (try simp only [Act.put]); (try simp only [List.setIfInBounds_toArray]); (try simp only [List.set_cons_succ, List.set_cons_zero])
                              refine wpAnyH_ready (rs := [10]) (by kernel_rfl) (by simp) ?_
                              refine AllReadyH.cons (o := _) rfl (fun K hK => ?_) ?_
                              · go_simp
                                refine hK.out _ _ ?_ (fun hHd10 => ?_)
                                · trivial
                                clear hK K hHd9
                                (try simp only [Act.put]); (try simp only [List.setIfInBounds_toArray]); (try simp only [List.set_cons_succ, List.set_cons_zero])
                                refine wpAnyH_done (by kernel_rfl) ?_ _
                                refine NoPanic.normal ?_
                                have HS1b : Hid (St B n g W0 v w k (3 + x) g4b 3 cap4b [t0, ta, tb] (w2.heap.size + 1) (w5b.setCell ⟨w2.heap.size + 1, 3, none⟩ (.slice (some ⟨g4b, 0, none⟩) 3 cap4b))) := Lib.hid HNb.out.1
                                clear HNb y3b z3b
                                generalize w5b.setCell ⟨w2.heap.size + 1, 3, none⟩ (.slice (some ⟨g4b, 0, none⟩) 3 cap4b) = W5b at HS1b ⊢
                                obtain ⟨⟨c0, c1, c2, c3⟩, f0, f1, f2, f3⟩ := HS1b.out.res.cells
                                obtain ⟨⟨b0, b1, b2, b3⟩, _⟩ := HS1b.out.box.cells
                                go_wp2
                                refine bodyPost_ret (v := .agg #[.int .i64 (3 + x), .string (bstr []), .int .i64 0, .slice (some ⟨g4b, 0, none⟩) 3 cap4b]) (by simp [results, Try.results18, go_sem, c0, c1, c2, c3, bstr]) rfl ?_
                                exact fin_node HS1b.out (by omega) (by omega) ⟨by omega, by omega⟩ (by simp)
                              exact AllReadyH.nil
                            exact AllReadyH.nil
                          exact AllReadyH.nil
                        refine AllReadyH.cons (o := _) rfl (fun K hK => ?_) ?_
                        · go_simp
                          refine hK.out _ _ ?_ (fun hHd11 => ?_)
                          · trivial
                          clear hK K hHd6
                          (try simp only [Act.put]); (try simp only [List.setIfInBounds_toArray]); (try simp only [List.set_cons_succ, List.set_cons_zero])
                          refine wpAnyH_ready (rs := [1]) (by kernel_rfl) (by simp) ?_
                          refine AllReadyH.cons (o := _) rfl (fun K hK => ?_) ?_
                          · go_simp
                            refine hK.out _ _ ?_ (fun hHd12 => ?_)
                            · trivial
                            clear hK K hHd11
                            (try simp only [Act.put]); (try simp only [List.setIfInBounds_toArray]); (try simp only [List.set_cons_succ, List.set_cons_zero])
                            refine wpAnyH_ready (rs := [8]) (by kernel_rfl) (by simp) ?_
                            refine AllReadyH.cons (o := _) rfl (fun K hK => ?_) ?_
                            · (refine step_append_d (by rfl) _ _ _ (by rfl) (w.heap.size + 1) 26 j0 _ 4 56 Try.underlying24 hij hy0 hy1 hy2 rfl (by omega) g4a 2 cap4a _ (by rfl) (own_below (own_grown (own_below HWb.out (Below.refl _ _).drew) HTb.out.2 (by omega)) ((Below.refl _ _).alloc (Nat.le_refl _) _)) ⟨w3b.heap.size, 0, none⟩ 1 1 [.int .i64 tb.op, .string (bstr tb.name), .int .i64 tb.sort, .slice Ab tb.args.length cb] (by rfl) (by rfl) (fun q x hq => termvr.one4 w3b _ _ _ _ _ q x hq) (termvr.four_one rfl rfl rfl rfl) (by unfold maxLen; omega) (by omega) (by simp; omega) ?_; intro g4b cap4b w5b hownb hgrb hg4b hlt4b _; have HNb := Lib.hid (HSb.out.next hgw hBg HTb.out HHb.out HRb.out HWb.out hownb hgrb hg4b hlt4b); obtain ⟨⟨_, _, _, y3b⟩, _, _, _, z3b⟩ := HNb.out.2.cells; clear hownb hgrb hg4b hlt4b)
                              refine hK.out _ _ ?_ (fun hHd13 => ?_)
                              · trivial
                              clear hK K hHd12
                              (try simp only [Act.put]); (try simp only [List.setIfInBounds_toArray]); (try simp only [List.set_cons_succ, List.set_cons_zero])
                              refine wpAnyH_take (i := 9) (v := ?_) rfl (by kernel_rfl) (by kernel_rfl) (by kernel_rfl) (fun _ _ _ h => h) (Or.inl ⟨by rfl, ?_⟩) trivial ?_
                              rotate_left
                              · intro w hSw; (try dsimp only at hSw); go_simp <;> with_reducible rfl
                              (try simp only [Act.put]); (try simp only [List.setIfInBounds_toArray]); (try simp only [List.set_cons_succ, List.set_cons_zero])
                              refine wpAnyH_ready (rs := [10]) (by kernel_rfl) (by simp) ?_
                              refine AllReadyH.cons (o := _) rfl (fun K hK => ?_) ?_
                              · go_simp
                                refine hK.out _ _ ?_ (fun hHd14 => ?_)
                                · trivial
                                clear hK K hHd13
                                (try simp only [Act.put]); (try simp only [List.setIfInBounds_toArray]); (try simp only [List.set_cons_succ, List.set_cons_zero])
                                refine wpAnyH_done (by kernel_rfl) ?_ _
                                refine NoPanic.normal ?_
                                have HS1b : Hid (St B n g W0 v w k (3 + x) g4b 3 cap4b [t0, ta, tb] (w2.heap.size + 1) (w5b.setCell ⟨w2.heap.size + 1, 3, none⟩ (.slice (some ⟨g4b, 0, none⟩) 3 cap4b))) := Lib.hid HNb.out.1
                                clear HNb y3b z3b
                                generalize w5b.setCell ⟨w2.heap.size + 1, 3, none⟩ (.slice (some ⟨g4b, 0, none⟩) 3 cap4b) = W5b at HS1b ⊢
                                obtain ⟨⟨c0, c1, c2, c3⟩, f0, f1, f2, f3⟩ := HS1b.out.res.cells
                                obtain ⟨⟨b0, b1, b2, b3⟩, _⟩ := HS1b.out.box.cells
                                go_wp2
                                refine bodyPost_ret (v := .agg #[.int .i64 (3 + x), .string (bstr []), .int .i64 0, .slice (some ⟨g4b, 0, none⟩) 3 cap4b]) (by simp [results, Try.results18, go_sem, c0, c1, c2, c3, bstr]) rfl ?_
                                exact fin_node HS1b.out (by omega) (by omega) ⟨by omega, by omega⟩ (by simp)
                              exact AllReadyH.nil
                            exact AllReadyH.nil
                          exact AllReadyH.nil
                        exact AllReadyH.nil
                      exact AllReadyH.nil
                  exact AllReadyH.nil
                exact AllReadyH.nil
              exact AllReadyH.nil
            exact AllReadyH.nil
          refine AllReadyH.cons (o := _) rfl (fun K hK => ?_) ?_
          · (go_simp; (with_reducible refine (HRA.out _ HDca.out).mono ?_); rintro e w3a ⟨ta, vaa, rfl, hha, hra, hsa⟩; obtain ⟨Aa, ca, rfl, _⟩ := HasR.shape hha rfl; have HHa := Lib.hid hha; have HRa := Lib.hid hra; have HTa := Lib.hid hsa; have hxa := (box_grown (box_below HSa.out.box (Below.refl _ _).drew) hsa.2 (by omega)).cells.1.2.2.2; have hlta : (w2.heap.size + 1) < w3a.heap.size := (Array.getElem?_eq_some_iff.1 (box_grown (box_below HSa.out.box (Below.refl _ _).drew) hsa.2 (by omega))).1; have hza : W.heap.size ≤ w3a.heap.size := hsa.2.size; clear hha hra hsa; (try dsimp only))
            refine hK.out _ _ ?_ (fun hHd6 => ?_)
            · trivial
            clear hK K hHd0
            (try simp only [Act.put]); (try simp only [List.setIfInBounds_toArray]); (try simp only [List.set_cons_succ, List.set_cons_zero])
            refine wpAnyH_ready (rs := [1, 7]) (by kernel_rfl) (by simp) ?_
            refine AllReadyH.cons (o := _) rfl (fun K hK => ?_) ?_
            · go_simp
              refine hK.out _ _ ?_ (fun hHd7 => ?_)
              · trivial
              clear hK K hHd6
              (try simp only [Act.put]); (try simp only [List.setIfInBounds_toArray]); (try simp only [List.set_cons_succ, List.set_cons_zero])
              refine wpAnyH_ready (rs := [7]) (by kernel_rfl) (by simp) ?_
              refine AllReadyH.cons (o := _) rfl (fun K hK => ?_) ?_
              · go_simp
                refine hK.out _ _ ?_ (fun hHd8 => ?_)
                · trivial
                clear hK K hHd7
                (try simp only [Act.put]); (try simp only [List.setIfInBounds_toArray]); (try simp only [List.set_cons_succ, List.set_cons_zero])
                refine wpAnyH_ready (rs := [8]) (by kernel_rfl) (by simp) ?_
                refine AllReadyH.cons (o := _) rfl (fun K hK => ?_) ?_
                · (refine step_append_d (by rfl) _ _ _ (by rfl) (w.heap.size + 1) 26 j0 _ 4 56 Try.underlying24 hij hy0 hy1 hy2 rfl (by omega) w2.heap.size 1 1 _ (by rfl) (own_below (own_grown (own_below HWa.out (Below.refl _ _).drew) HTa.out.2 (by omega)) ((Below.refl _ _).alloc (Nat.le_refl _) _)) ⟨w3a.heap.size, 0, none⟩ 1 1 [.int .i64 ta.op, .string (bstr ta.name), .int .i64 ta.sort, .slice Aa ta.args.length ca] (by rfl) (by rfl) (fun q x hq => termvr.one4 w3a _ _ _ _ _ q x hq) (termvr.four_one rfl rfl rfl rfl) (by unfold maxLen; omega) (by omega) (by simp; omega) ?_; intro g4a cap4a w5a howna hgra hg4a hlt4a _; have HNa := Lib.hid (HSa.out.next hgw hBg HTa.out HHa.out HRa.out HWa.out howna hgra hg4a hlt4a); obtain ⟨⟨_, _, _, y3a⟩, _, _, _, z3a⟩ := HNa.out.2.cells; clear howna hgra hg4a hlt4a)
                  refine hK.out _ _ ?_ (fun hHd9 => ?_)
                  · trivial
                  clear hK K hHd8
                  (try simp only [Act.put]); (try simp only [List.setIfInBounds_toArray]); (try simp only [List.set_cons_succ, List.set_cons_zero])
                  refine wpAnyH_take (i := 9) (v := ?_) rfl (by kernel_rfl) (by kernel_rfl) (by kernel_rfl) (fun _ _ _ h => h) (Or.inl ⟨by rfl, ?_⟩) trivial ?_
                  rotate_left
                  · intro w hSw; (try dsimp only at hSw); go_simp <;> with_reducible rfl
                  (try simp only [Act.put]); (try simp only [List.setIfInBounds_toArray]); (try simp only [List.set_cons_succ, List.set_cons_zero])
                  refine wpAnyH_ready (rs := [10]) (by kernel_rfl) (by simp) ?_
                  refine AllReadyH.cons (o := _) rfl (fun K hK => ?_) ?_
                  · go_simp
                    refine hK.out _ _ ?_ (fun hHd10 => ?_)
                    · trivial
                    clear hK K hHd9
                    (try simp only [Act.put]); (try simp only [List.setIfInBounds_toArray]); (try simp only [List.set_cons_succ, List.set_cons_zero])
                    refine wpAnyH_done (by kernel_rfl) ?_ _
                    refine NoPanic.normal ?_
                    have HS1a : Hid (St B n g W0 v w k (3 + x) g4a 2 cap4a [t0, ta] (w2.heap.size + 1) (w5a.setCell ⟨w2.heap.size + 1, 3, none⟩ (.slice (some ⟨g4a, 0, none⟩) 2 cap4a))) := Lib.hid HNa.out.1
                    clear HNa y3a z3a
                    generalize w5a.setCell ⟨w2.heap.size + 1, 3, none⟩ (.slice (some ⟨g4a, 0, none⟩) 2 cap4a) = W5a at HS1a ⊢
                    go_wp2_with fail
                    refine (HON.out 4 (by omega) (by omega) _ HS1a.out.step.1).mono ?_
                    rintro e w6 ⟨y, rfl, hs6⟩
                    have HSb := Lib.hid (HS1a.out.cur hs6 hgw)
                    clear hs6 HS1a
                    cases y with
                    | false =>
                      obtain ⟨⟨c0, c1, c2, c3⟩, f0, f1, f2, f3⟩ := HSb.out.res.cells
                      obtain ⟨⟨b0, b1, b2, b3⟩, _⟩ := HSb.out.box.cells
                      go_wp2
                      refine bodyPost_ret (v := .agg #[.int .i64 (3 + x), .string (bstr []), .int .i64 0, .slice (some ⟨g4a, 0, none⟩) 2 cap4a]) (by simp [results, Try.results18, go_sem, c0, c1, c2, c3, bstr]) rfl ?_
                      exact fin_node HSb.out (by omega) (by omega) ⟨by omega, by omega⟩ (by simp)
                    | true =>
                      go_wp2_with fail
                      have hx8b : (w2.heap.size + 1) < w6.heap.size := (Array.getElem?_eq_some_iff.1 HSb.out.box).1
                      obtain ⟨xsb, hob⟩ : ∃ xs, w6.ownsRow (w.heap.size + 1) 26 4 (.slice (some ⟨g4a, 0, none⟩) 2 cap4a) 2 xs := by obtain ⟨_, xs, h, _⟩ := HSb.out.kids; exact ⟨xs, h⟩
                      have HWb := Lib.hid hob
                      have HDb : Hid (Step B W0 v n g w w6.drew) := Lib.hid (HSb.out.step.trans (step_below HSb.out.step.1 (Below.refl _ _).drew))
                      have xbb := HSb.out.box.cells.1.2.2.2
                      have HDcb : Hid (Cur B W0 v n g w6.drew) := Lib.hid HDb.out.1
                      have neb := HSb.out.ne
                      have iwb : IntKind.i64.wrap (k : Int) = (k : Int) := IntWalk.i64_in _ (by omega)
                      clear hob
                      refine wp_region_noPanic ?_
                      refine wp_region_held_drew (S := (fun _ => True)) (by kernel_rfl) ?_ (fun hHd0 => ?_)
                      · trivial
                      refine wpAnyH_take (i := 0) (v := ?_) rfl (by kernel_rfl) (by kernel_rfl) (by kernel_rfl) (fun _ _ _ h => h) (Or.inl ⟨by rfl, ?_⟩) trivial ?_
                      rotate_left
                      · intro w hSw; (try dsimp only at hSw); go_simp <;> with_reducible rfl
                      (try simp only [Act.put]); (try simp only [List.setIfInBounds_toArray]); (try simp only [List.set_cons_succ, List.set_cons_zero])
                      refine wpAnyH_take (i := 2) (v := ?_) rfl (by kernel_rfl) (by kernel_rfl) (by kernel_rfl) (fun _ _ _ h => h) (Or.inl ⟨by rfl, ?_⟩) trivial ?_
                      rotate_left
                      · intro w hSw; (try dsimp only at hSw); go_simp <;> with_reducible rfl
                      (try simp only [Act.put]); (try simp only [List.setIfInBounds_toArray]); (try simp only [List.set_cons_succ, List.set_cons_zero])
                      refine wpAnyH_take (i := 3) (v := ?_) rfl (by kernel_rfl) (by kernel_rfl) (by kernel_rfl) (fun _ _ _ h => h) (Or.inl ⟨by rfl, ?_⟩) trivial ?_
                      rotate_left
                      · intro w hSw; (try dsimp only at hSw); go_simp <;> with_reducible rfl
                      (try simp only [Act.put]); (try simp only [List.setIfInBounds_toArray]); (try simp only [List.set_cons_succ, List.set_cons_zero])
                      refine wpAnyH_take (i := 4) (v := ?_) rfl (by kernel_rfl) (by kernel_rfl) (by kernel_rfl) (fun _ _ _ h => h) (Or.inl ⟨by rfl, ?_⟩) trivial ?_
                      rotate_left
                      · intro w hSw; (try dsimp only at hSw); go_simp <;> with_reducible rfl
                      (try simp only [Act.put]); (try simp only [List.setIfInBounds_toArray]); (try simp only [List.set_cons_succ, List.set_cons_zero])
                      refine wpAnyH_take (i := 5) (v := ?_) rfl (by kernel_rfl) (by kernel_rfl) (by kernel_rfl) (fun _ _ _ h => h) (Or.inl ⟨by rfl, ?_⟩) trivial ?_
                      rotate_left
                      · intro w hSw; (try dsimp only at hSw); go_simp <;> with_reducible rfl
                      (try simp only [Act.put]); (try simp only [List.setIfInBounds_toArray]); (try simp only [List.set_cons_succ, List.set_cons_zero])
                      refine wpAnyH_ready (rs := [1, 6]) (by kernel_rfl) (by simp) ?_
                      refine AllReadyH.cons (o := _) rfl (fun K hK => ?_) ?_
                      · go_simp
                        refine hK.out _ _ ?_ (fun hHd1 => ?_)
                        · trivial
                        clear hK K hHd0
                        (try simp only [Act.put]); (try simp only [List.setIfInBounds_toArray]); (try simp only [List.set_cons_succ, List.set_cons_zero])
                        refine wpAnyH_ready (rs := [6]) (by kernel_rfl) (by simp) ?_
                        refine AllReadyH.cons (o := _) rfl (fun K hK => ?_) ?_
                        · (go_simp; (with_reducible refine (HRA.out _ HDcb.out).mono ?_); rintro e w3b ⟨tb, vab, rfl, hhb, hrb, hsb⟩; obtain ⟨Ab, cb, rfl, _⟩ := HasR.shape hhb rfl; have HHb := Lib.hid hhb; have HRb := Lib.hid hrb; have HTb := Lib.hid hsb; have hxb := (box_grown (box_below HSb.out.box (Below.refl _ _).drew) hsb.2 (by omega)).cells.1.2.2.2; have hltb : (w2.heap.size + 1) < w3b.heap.size := (Array.getElem?_eq_some_iff.1 (box_grown (box_below HSb.out.box (Below.refl _ _).drew) hsb.2 (by omega))).1; have hzb : w6.heap.size ≤ w3b.heap.size := hsb.2.size; clear hhb hrb hsb; (try dsimp only))
                          refine hK.out _ _ ?_ (fun hHd2 => ?_)
                          · trivial
                          clear hK K hHd1
                          (try simp only [Act.put]); (try simp only [List.setIfInBounds_toArray]); (try simp only [List.set_cons_succ, List.set_cons_zero])
                          refine wpAnyH_ready (rs := [7]) (by kernel_rfl) (by simp) ?_
                          refine AllReadyH.cons (o := _) rfl (fun K hK => ?_) ?_
                          · go_simp
                            refine hK.out _ _ ?_ (fun hHd3 => ?_)
                            · trivial
                            clear hK K hHd2
                            (try simp only [Act.put]); (try simp only [List.setIfInBounds_toArray]); (try simp only [List.set_cons_succ, List.set_cons_zero])
                            refine wpAnyH_ready (rs := [8]) (by kernel_rfl) (by simp) ?_
                            refine AllReadyH.cons (o := _) rfl (fun K hK => ?_) ?_
                            · (refine step_append_d (by rfl) _ _ _ (by rfl) (w.heap.size + 1) 26 j0 _ 4 56 Try.underlying24 hij hy0 hy1 hy2 rfl (by omega) g4a 2 cap4a _ (by rfl) (own_below (own_grown (own_below HWb.out (Below.refl _ _).drew) HTb.out.2 (by omega)) ((Below.refl _ _).alloc (Nat.le_refl _) _)) ⟨w3b.heap.size, 0, none⟩ 1 1 [.int .i64 tb.op, .string (bstr tb.name), .int .i64 tb.sort, .slice Ab tb.args.length cb] (by rfl) (by rfl) (fun q x hq => termvr.one4 w3b _ _ _ _ _ q x hq) (termvr.four_one rfl rfl rfl rfl) (by unfold maxLen; omega) (by omega) (by simp; omega) ?_; intro g4b cap4b w5b hownb hgrb hg4b hlt4b _; have HNb := Lib.hid (HSb.out.next hgw hBg HTb.out HHb.out HRb.out HWb.out hownb hgrb hg4b hlt4b); obtain ⟨⟨_, _, _, y3b⟩, _, _, _, z3b⟩ := HNb.out.2.cells; clear hownb hgrb hg4b hlt4b)
                              refine hK.out _ _ ?_ (fun hHd4 => ?_)
                              · trivial
                              clear hK K hHd3
                              (try simp only [Act.put]); (try simp only [List.setIfInBounds_toArray]); (try simp only [List.set_cons_succ, List.set_cons_zero])
                              refine wpAnyH_take (i := 9) (v := ?_) rfl (by kernel_rfl) (by kernel_rfl) (by kernel_rfl) (fun _ _ _ h => h) (Or.inl ⟨by rfl, ?_⟩) trivial ?_
                              rotate_left
                              · intro w hSw; (try dsimp only at hSw); go_simp <;> with_reducible rfl
                              (try simp only [Act.put]); (try simp only [List.setIfInBounds_toArray]); (try simp only [List.set_cons_succ, List.set_cons_zero])
                              refine wpAnyH_ready (rs := [10]) (by kernel_rfl) (by simp) ?_
                              refine AllReadyH.cons (o := _) rfl (fun K hK => ?_) ?_
                              · go_simp
                                refine hK.out _ _ ?_ (fun hHd5 => ?_)
                                · trivial
                                clear hK K hHd4
                                (try simp only [Act.put]); (try simp only [List.setIfInBounds_toArray]); (try simp only [List.set_cons_succ, List.set_cons_zero])
                                refine wpAnyH_done (by kernel_rfl) ?_ _
                                refine NoPanic.normal ?_
                                have HS1b : Hid (St B n g W0 v w k (3 + x) g4b 3 cap4b [t0, ta, tb] (w2.heap.size + 1) (w5b.setCell ⟨w2.heap.size + 1, 3, none⟩ (.slice (some ⟨g4b, 0, none⟩) 3 cap4b))) := Lib.hid HNb.out.1
                                clear HNb y3b z3b
                                generalize w5b.setCell ⟨w2.heap.size + 1, 3, none⟩ (.slice (some ⟨g4b, 0, none⟩) 3 cap4b) = W5b at HS1b ⊢
                                obtain ⟨⟨c0, c1, c2, c3⟩, f0, f1, f2, f3⟩ := HS1b.out.res.cells
                                obtain ⟨⟨b0, b1, b2, b3⟩, _⟩ := HS1b.out.box.cells
                                go_wp2
                                refine bodyPost_ret (v := .agg #[.int .i64 (3 + x), .string (bstr []), .int .i64 0, .slice (some ⟨g4b, 0, none⟩) 3 cap4b]) (by simp [results, Try.results18, go_sem, c0, c1, c2, c3, bstr]) rfl ?_
                                exact fin_node HS1b.out (by omega) (by omega) ⟨by omega, by omega⟩ (by simp)
                              exact AllReadyH.nil
                            exact AllReadyH.nil
                          exact AllReadyH.nil
                        exact AllReadyH.nil
                      refine AllReadyH.cons (o := _) rfl (fun K hK => ?_) ?_
                      · (go_simp; (with_reducible refine (HRA.out _ HDcb.out).mono ?_); rintro e w3b ⟨tb, vab, rfl, hhb, hrb, hsb⟩; obtain ⟨Ab, cb, rfl, _⟩ := HasR.shape hhb rfl; have HHb := Lib.hid hhb; have HRb := Lib.hid hrb; have HTb := Lib.hid hsb; have hxb := (box_grown (box_below HSb.out.box (Below.refl _ _).drew) hsb.2 (by omega)).cells.1.2.2.2; have hltb : (w2.heap.size + 1) < w3b.heap.size := (Array.getElem?_eq_some_iff.1 (box_grown (box_below HSb.out.box (Below.refl _ _).drew) hsb.2 (by omega))).1; have hzb : w6.heap.size ≤ w3b.heap.size := hsb.2.size; clear hhb hrb hsb; (try dsimp only))
                        refine hK.out _ _ ?_ (fun hHd6 => ?_)
                        · trivial
                        clear hK K hHd0
                        (try simp only [Act.put]); (try simp only [List.setIfInBounds_toArray]); (try simp only [List.set_cons_succ, List.set_cons_zero])
                        refine wpAnyH_ready (rs := [1, 7]) (by kernel_rfl) (by simp) ?_
                        refine AllReadyH.cons (o := _) rfl (fun K hK => ?_) ?_
                        · go_simp
                          refine hK.out _ _ ?_ (fun hHd7 => ?_)
                          · trivial
                          clear hK K hHd6
                          (try simp only [Act.put]); (try simp only [List.setIfInBounds_toArray]); (try simp only [List.set_cons_succ, List.set_cons_zero])
                          refine wpAnyH_ready (rs := [7]) (by kernel_rfl) (by simp) ?_
                          refine AllReadyH.cons (o := _) rfl (fun K hK => ?_) ?_
                          · go_simp
                            refine hK.out _ _ ?_ (fun hHd8 => ?_)
                            · trivial
                            clear hK K hHd7
                            (try simp only [Act.put]); (try simp only [List.setIfInBounds_toArray]); (try simp only [List.set_cons_succ, List.set_cons_zero])
                            refine wpAnyH_ready (rs := [8]) (by kernel_rfl) (by simp) ?_
                            refine AllReadyH.cons (o := _) rfl (fun K hK => ?_) ?_
                            · (refine step_append_d (by rfl) _ _ _ (by rfl) (w.heap.size + 1) 26 j0 _ 4 56 Try.underlying24 hij hy0 hy1 hy2 rfl (by omega) g4a 2 cap4a _ (by rfl) (own_below (own_grown (own_below HWb.out (Below.refl _ _).drew) HTb.out.2 (by omega)) ((Below.refl _ _).alloc (Nat.le_refl _) _)) ⟨w3b.heap.size, 0, none⟩ 1 1 [.int .i64 tb.op, .string (bstr tb.name), .int .i64 tb.sort, .slice Ab tb.args.length cb] (by rfl) (by rfl) (fun q x hq => termvr.one4 w3b _ _ _ _ _ q x hq) (termvr.four_one rfl rfl rfl rfl) (by unfold maxLen; omega) (by omega) (by simp; omega) ?_; intro g4b cap4b w5b hownb hgrb hg4b hlt4b _; have HNb := Lib.hid (HSb.out.next hgw hBg HTb.out HHb.out HRb.out HWb.out hownb hgrb hg4b hlt4b); obtain ⟨⟨_, _, _, y3b⟩, _, _, _, z3b⟩ := HNb.out.2.cells; clear hownb hgrb hg4b hlt4b)
                              refine hK.out _ _ ?_ (fun hHd9 => ?_)
                              · trivial
                              clear hK K hHd8
                              (try simp only [Act.put]); (try simp only [List.setIfInBounds_toArray]); (try simp only [List.set_cons_succ, List.set_cons_zero])
                              refine wpAnyH_take (i := 9) (v := ?_) rfl (by kernel_rfl) (by kernel_rfl) (by kernel_rfl) (fun _ _ _ h => h) (Or.inl ⟨by rfl, ?_⟩) trivial ?_
                              rotate_left
                              · intro w hSw; (try dsimp only at hSw); go_simp <;> with_reducible rfl
                              (try simp only [Act.put]); (try simp only [List.setIfInBounds_toArray]); (try simp only [List.set_cons_succ, List.set_cons_zero])
                              refine wpAnyH_ready (rs := [10]) (by kernel_rfl) (by simp) ?_
                              refine AllReadyH.cons (o := _) rfl (fun K hK => ?_) ?_
                              · go_simp
                                refine hK.out _ _ ?_ (fun hHd10 => ?_)
                                · trivial
                                clear hK K hHd9
                                (try simp only [Act.put]); (try simp only [List.setIfInBounds_toArray]); (try simp only [List.set_cons_succ, List.set_cons_zero])
                                refine wpAnyH_done (by kernel_rfl) ?_ _
                                refine NoPanic.normal ?_
                                have HS1b : Hid (St B n g W0 v w k (3 + x) g4b 3 cap4b [t0, ta, tb] (w2.heap.size + 1) (w5b.setCell ⟨w2.heap.size + 1, 3, none⟩ (.slice (some ⟨g4b, 0, none⟩) 3 cap4b))) := Lib.hid HNb.out.1
                                clear HNb y3b z3b
                                generalize w5b.setCell ⟨w2.heap.size + 1, 3, none⟩ (.slice (some ⟨g4b, 0, none⟩) 3 cap4b) = W5b at HS1b ⊢
                                obtain ⟨⟨c0, c1, c2, c3⟩, f0, f1, f2, f3⟩ := HS1b.out.res.cells
                                obtain ⟨⟨b0, b1, b2, b3⟩, _⟩ := HS1b.out.box.cells
                                go_wp2
                                refine bodyPost_ret (v := .agg #[.int .i64 (3 + x), .string (bstr []), .int .i64 0, .slice (some ⟨g4b, 0, none⟩) 3 cap4b]) (by simp [results, Try.results18, go_sem, c0, c1, c2, c3, bstr]) rfl ?_
                                exact fin_node HS1b.out (by omega) (by omega) ⟨by omega, by omega⟩ (by simp)
                              exact AllReadyH.nil
                            exact AllReadyH.nil
                          exact AllReadyH.nil
                        refine AllReadyH.cons (o := _) rfl (fun K hK => ?_) ?_
                        · go_simp
                          refine hK.out _ _ ?_ (fun hHd11 => ?_)
                          · trivial
                          clear hK K hHd6
                          (try simp only [Act.put]); (try simp only [List.setIfInBounds_toArray]); (try simp only [List.set_cons_succ, List.set_cons_zero])
                          refine wpAnyH_ready (rs := [1]) (by kernel_rfl) (by simp) ?_
                          refine AllReadyH.cons (o := _) rfl (fun K hK => ?_) ?_
                          · go_simp
                            refine hK.out _ _ ?_ (fun hHd12 => ?_)
                            · trivial
                            clear hK K hHd11
                            (try simp only [Act.put]); (try simp only [List.setIfInBounds_toArray]); (try simp only [List.set_cons_succ, List.set_cons_zero])
                            refine wpAnyH_ready (rs := [8]) (by kernel_rfl) (by simp) ?_
                            refine AllReadyH.cons (o := _) rfl (fun K hK => ?_) ?_
                            · (refine step_append_d (by rfl) _ _ _ (by rfl) (w.heap.size + 1) 26 j0 _ 4 56 Try.underlying24 hij hy0 hy1 hy2 rfl (by omega) g4a 2 cap4a _ (by rfl) (own_below (own_grown (own_below HWb.out (Below.refl _ _).drew) HTb.out.2 (by omega)) ((Below.refl _ _).alloc (Nat.le_refl _) _)) ⟨w3b.heap.size, 0, none⟩ 1 1 [.int .i64 tb.op, .string (bstr tb.name), .int .i64 tb.sort, .slice Ab tb.args.length cb] (by rfl) (by rfl) (fun q x hq => termvr.one4 w3b _ _ _ _ _ q x hq) (termvr.four_one rfl rfl rfl rfl) (by unfold maxLen; omega) (by omega) (by simp; omega) ?_; intro g4b cap4b w5b hownb hgrb hg4b hlt4b _; have HNb := Lib.hid (HSb.out.next hgw hBg HTb.out HHb.out HRb.out HWb.out hownb hgrb hg4b hlt4b); obtain ⟨⟨_, _, _, y3b⟩, _, _, _, z3b⟩ := HNb.out.2.cells; clear hownb hgrb hg4b hlt4b)
                              refine hK.out _ _ ?_ (fun hHd13 => ?_)
                              · trivial
                              clear hK K hHd12
                              (try simp only [Act.put]); (try simp only [List.setIfInBounds_toArray]); (try simp only [List.set_cons_succ, List.set_cons_zero])
                              refine wpAnyH_take (i := 9) (v := ?_) rfl (by kernel_rfl) (by kernel_rfl) (by kernel_rfl) (fun _ _ _ h => h) (Or.inl ⟨by rfl, ?_⟩) trivial ?_
                              rotate_left
                              · intro w hSw; (try dsimp only at hSw); go_simp <;> with_reducible rfl
                              (try simp only [Act.put]); (try simp only [List.setIfInBounds_toArray]); (try simp only [List.set_cons_succ, List.set_cons_zero])
                              refine wpAnyH_ready (rs := [10]) (by kernel_rfl) (by simp) ?_
                              refine AllReadyH.cons (o := _) rfl (fun K hK => ?_) ?_
                              · go_simp
                                refine hK.out _ _ ?_ (fun hHd14 => ?_)
                                · trivial
                                clear hK K hHd13
                                (try simp only [Act.put]); (try simp only [List.setIfInBounds_toArray]); (try simp only [List.set_cons_succ, List.set_cons_zero])
                                refine wpAnyH_done (by kernel_rfl) ?_ _
                                refine NoPanic.normal ?_
                                have HS1b : Hid (St B n g W0 v w k (3 + x) g4b 3 cap4b [t0, ta, tb] (w2.heap.size + 1) (w5b.setCell ⟨w2.heap.size + 1, 3, none⟩ (.slice (some ⟨g4b, 0, none⟩) 3 cap4b))) := Lib.hid HNb.out.1
                                clear HNb y3b z3b
                                generalize w5b.setCell ⟨w2.heap.size + 1, 3, none⟩ (.slice (some ⟨g4b, 0, none⟩) 3 cap4b) = W5b at HS1b ⊢
                                obtain ⟨⟨c0, c1, c2, c3⟩, f0, f1, f2, f3⟩ := HS1b.out.res.cells
                                obtain ⟨⟨b0, b1, b2, b3⟩, _⟩ := HS1b.out.box.cells
                                go_wp2
                                refine bodyPost_ret (v := .agg #[.int .i64 (3 + x), .string (bstr []), .int .i64 0, .slice (some ⟨g4b, 0, none⟩) 3 cap4b]) (by simp [results, Try.results18, go_sem, c0, c1, c2, c3, bstr]) rfl ?_
                                exact fin_node HS1b.out (by omega) (by omega) ⟨by omega, by omega⟩ (by simp)
                              exact AllReadyH.nil
                            exact AllReadyH.nil
                          exact AllReadyH.nil
                        exact AllReadyH.nil
                      exact AllReadyH.nil
                  exact AllReadyH.nil
                exact AllReadyH.nil
              exact AllReadyH.nil
            refine AllReadyH.cons (o := _) rfl (fun K hK => ?_) ?_
            · go_simp
              refine hK.out _ _ ?_ (fun hHd11 => ?_)
              · trivial
              clear hK K hHd6
              (try simp only [Act.put]); (try simp only [List.setIfInBounds_toArray]); (try simp only [List.set_cons_succ, List.set_cons_zero])
              refine wpAnyH_ready (rs := [1]) (by kernel_rfl) (by simp) ?_
              refine AllReadyH.cons (o := _) rfl (fun K hK => ?_) ?_
              · go_simp
                refine hK.out _ _ ?_ (fun hHd12 => ?_)
                · trivial
                clear hK K hHd11
                (try simp only [Act.put]); (try simp only [List.setIfInBounds_toArray]); (try simp only [List.set_cons_succ, List.set_cons_zero])
                refine wpAnyH_ready (rs := [8]) (by kernel_rfl) (by simp) ?_
                refine AllReadyH.cons (o := _) rfl (fun K hK => ?_) ?_
                · (refine step_append_d (by rfl) _ _ _ (by rfl) (w.heap.size + 1) 26 j0 _ 4 56 Try.underlying24 hij hy0 hy1 hy2 rfl (by omega) w2.heap.size 1 1 _ (by rfl) (own_below (own_grown (own_below HWa.out (Below.refl _ _).drew) HTa.out.2 (by omega)) ((Below.refl _ _).alloc (Nat.le_refl _) _)) ⟨w3a.heap.size, 0, none⟩ 1 1 [.int .i64 ta.op, .string (bstr ta.name), .int .i64 ta.sort, .slice Aa ta.args.length ca] (by rfl) (by rfl) (fun q x hq => termvr.one4 w3a _ _ _ _ _ q x hq) (termvr.four_one rfl rfl rfl rfl) (by unfold maxLen; omega) (by omega) (by simp; omega) ?_; intro g4a cap4a w5a howna hgra hg4a hlt4a _; have HNa := Lib.hid (HSa.out.next hgw hBg HTa.out HHa.out HRa.out HWa.out howna hgra hg4a hlt4a); obtain ⟨⟨_, _, _, y3a⟩, _, _, _, z3a⟩ := HNa.out.2.cells; clear howna hgra hg4a hlt4a)
                  refine hK.out _ _ ?_ (fun hHd13 => ?_)
                  · trivial
                  clear hK K hHd12
                  (try simp only [Act.put]); (try simp only [List.setIfInBounds_toArray]); (try simp only [List.set_cons_succ, List.set_cons_zero])
                  refine wpAnyH_take (i := 9) (v := ?_) rfl (by kernel_rfl) (by kernel_rfl) (by kernel_rfl) (fun _ _ _ h => h) (Or.inl ⟨by rfl, ?_⟩) trivial ?_
                  rotate_left
                  · intro w hSw; (try dsimp only at hSw); go_simp <;> with_reducible rfl
                  (try simp only [Act.put]); (try simp only [List.setIfInBounds_toArray]); (try simp only [List.set_cons_succ, List.set_cons_zero])
                  refine wpAnyH_ready (rs := [10]) (by kernel_rfl) (by simp) ?_
                  refine AllReadyH.cons (o := _) rfl (fun K hK => ?_) ?_
                  · go_simp
                    refine hK.out _ _ ?_ (fun hHd14 => ?_)
                    · trivial
                    clear hK K hHd13
                    (try simp only [Act.put]); (try simp only [List.setIfInBounds_toArray]); (try simp only [List.set_cons_succ, List.set_cons_zero])
                    refine wpAnyH_done (by kernel_rfl) ?_ _
                    refine NoPanic.normal ?_
                    have HS1a : Hid (St B n g W0 v w k (3 + x) g4a 2 cap4a [t0, ta] (w2.heap.size + 1) (w5a.setCell ⟨w2.heap.size + 1, 3, none⟩ (.slice (some ⟨g4a, 0, none⟩) 2 cap4a))) := Lib.hid HNa.out.1
                    clear HNa y3a z3a
                    generalize w5a.setCell ⟨w2.heap.size + 1, 3, none⟩ (.slice (some ⟨g4a, 0, none⟩) 2 cap4a) = W5a at HS1a ⊢
                    go_wp2_with fail
                    refine (HON.out 4 (by omega) (by omega) _ HS1a.out.step.1).mono ?_
                    rintro e w6 ⟨y, rfl, hs6⟩
                    have HSb := Lib.hid (HS1a.out.cur hs6 hgw)
                    clear hs6 HS1a
                    cases y with
                    | false =>
                      obtain ⟨⟨c0, c1, c2, c3⟩, f0, f1, f2, f3⟩ := HSb.out.res.cells
                      obtain ⟨⟨b0, b1, b2, b3⟩, _⟩ := HSb.out.box.cells
                      go_wp2
                      refine bodyPost_ret (v := .agg #[.int .i64 (3 + x), .string (bstr []), .int .i64 0, .slice (some ⟨g4a, 0, none⟩) 2 cap4a]) (by simp [results, Try.results18, go_sem, c0, c1, c2, c3, bstr]) rfl ?_
                      exact fin_node HSb.out (by omega) (by omega) ⟨by omega, by omega⟩ (by simp)
                    | true =>
                      go_wp2_with fail
                      have hx8b : (w2.heap.size + 1) < w6.heap.size := (Array.getElem?_eq_some_iff.1 HSb.out.box).1
                      obtain ⟨xsb, hob⟩ : ∃ xs, w6.ownsRow (w.heap.size + 1) 26 4 (.slice (some ⟨g4a, 0, none⟩) 2 cap4a) 2 xs := by obtain ⟨_, xs, h, _⟩ := HSb.out.kids; exact ⟨xs, h⟩
                      have HWb := Lib.hid hob
                      have HDb : Hid (Step B W0 v n g w w6.drew) := Lib.hid (HSb.out.step.trans (step_below HSb.out.step.1 (Below.refl _ _).drew))
                      have xbb := HSb.out.box.cells.1.2.2.2
                      have HDcb : Hid (Cur B W0 v n g w6.drew) := Lib.hid HDb.out.1
                      have neb := HSb.out.ne
                      have iwb : IntKind.i64.wrap (k : Int) = (k : Int) := IntWalk.i64_in _ (by omega)
                      clear hob
                      refine wp_region_noPanic ?_
                      refine wp_region_held_drew (S := (fun _ => True)) (by kernel_rfl) ?_ (fun hHd0 => ?_)
                      · trivial
                      refine wpAnyH_take (i := 0) (v := ?_) rfl (by kernel_rfl) (by kernel_rfl) (by kernel_rfl) (fun _ _ _ h => h) (Or.inl ⟨by rfl, ?_⟩) trivial ?_
                      rotate_left
                      · intro w hSw; (try dsimp only at hSw); go_simp <;> with_reducible rfl
                      (try simp only [Act.put]); (try simp only [List.setIfInBounds_toArray]); (try simp only [List.set_cons_succ, List.set_cons_zero])
                      refine wpAnyH_take (i := 2) (v := ?_) rfl (by kernel_rfl) (by kernel_rfl) (by kernel_rfl) (fun _ _ _ h => h) (Or.inl ⟨by rfl, ?_⟩) trivial ?_
                      rotate_left
                      · intro w hSw; (try dsimp only at hSw); go_simp <;> with_reducible rfl
                      (try simp only [Act.put]); (try simp only [List.setIfInBounds_toArray]); (try simp only [List.set_cons_succ, List.set_cons_zero])
                      refine wpAnyH_take (i := 3) (v := ?_) rfl (by kernel_rfl) (by kernel_rfl) (by kernel_rfl) (fun _ _ _ h => h) (Or.inl ⟨by rfl, ?_⟩) trivial ?_
                      rotate_left
                      · intro w hSw; (try dsimp only at hSw); go_simp <;> with_reducible rfl
                      (try simp only [Act.put]); (try simp only [List.setIfInBounds_toArray]); (try simp only [List.set_cons_succ, List.set_cons_zero])
                      refine wpAnyH_take (i := 4) (v := ?_) rfl (by kernel_rfl) (by kernel_rfl) (by kernel_rfl) (fun _ _ _ h => h) (Or.inl ⟨by rfl, ?_⟩) trivial ?_
                      rotate_left
                      · intro w hSw; (try dsimp only at hSw); go_simp <;> with_reducible rfl
                      (try simp only [Act.put]); (try simp only [List.setIfInBounds_toArray]); (try simp only [List.set_cons_succ, List.set_cons_zero])
                      refine wpAnyH_take (i := 5) (v := ?_) rfl (by kernel_rfl) (by kernel_rfl) (by kernel_rfl) (fun _ _ _ h => h) (Or.inl ⟨by rfl, ?_⟩) trivial ?_
                      rotate_left
                      · intro w hSw; (try dsimp only at hSw); go_simp <;> with_reducible rfl
                      (try simp only [Act.put]); (try simp only [List.setIfInBounds_toArray]); (try simp only [List.set_cons_succ, List.set_cons_zero])
                      refine wpAnyH_ready (rs := [1, 6]) (by kernel_rfl) (by simp) ?_
                      refine AllReadyH.cons (o := _) rfl (fun K hK => ?_) ?_
                      · go_simp
                        refine hK.out _ _ ?_ (fun hHd1 => ?_)
                        · trivial
                        clear hK K hHd0
                        (try simp only [Act.put]); (try simp only [List.setIfInBounds_toArray]); (try simp only [List.set_cons_succ, List.set_cons_zero])
                        refine wpAnyH_ready (rs := [6]) (by kernel_rfl) (by simp) ?_
                        refine AllReadyH.cons (o := _) rfl (fun K hK => ?_) ?_
                        · (go_simp; (with_reducible refine (HRA.out _ HDcb.out).mono ?_); rintro e w3b ⟨tb, vab, rfl, hhb, hrb, hsb⟩; obtain ⟨Ab, cb, rfl, _⟩ := HasR.shape hhb rfl; have HHb := Lib.hid hhb; have HRb := Lib.hid hrb; have HTb := Lib.hid hsb; have hxb := (box_grown (box_below HSb.out.box (Below.refl _ _).drew) hsb.2 (by omega)).cells.1.2.2.2; have hltb : (w2.heap.size + 1) < w3b.heap.size := (Array.getElem?_eq_some_iff.1 (box_grown (box_below HSb.out.box (Below.refl _ _).drew) hsb.2 (by omega))).1; have hzb : w6.heap.size ≤ w3b.heap.size := hsb.2.size; clear hhb hrb hsb; (try dsimp only))
                          refine hK.out _ _ ?_ (fun hHd2 => ?_)
                          · trivial
                          clear hK K hHd1
                          (try simp only [Act.put]); (try simp only [List.setIfInBounds_toArray]); (try simp only [List.set_cons_succ, List.set_cons_zero])
                          refine wpAnyH_ready (rs := [7]) (by kernel_rfl) (by simp) ?_
                          refine AllReadyH.cons (o := _) rfl (fun K hK => ?_) ?_
                          · go_simp
                            refine hK.out _ _ ?_ (fun hHd3 => ?_)
                            · trivial
                            clear hK K hHd2
                            (try simp only [Act.put]); (try simp only [List.setIfInBounds_toArray]); (try simp only [List.set_cons_succ, List.set_cons_zero])
                            refine wpAnyH_ready (rs := [8]) (by kernel_rfl) (by simp) ?_
                            refine AllReadyH.cons (o := _) rfl (fun K hK => ?_) ?_
                            · (refine step_append_d (by rfl) _ _ _ (by rfl) (w.heap.size + 1) 26 j0 _ 4 56 Try.underlying24 hij hy0 hy1 hy2 rfl (by omega) g4a 2 cap4a _ (by rfl) (own_below (own_grown (own_below HWb.out (Below.refl _ _).drew) HTb.out.2 (by omega)) ((Below.refl _ _).alloc (Nat.le_refl _) _)) ⟨w3b.heap.size, 0, none⟩ 1 1 [.int .i64 tb.op, .string (bstr tb.name), .int .i64 tb.sort, .slice Ab tb.args.length cb] (by rfl) (by rfl) (fun q x hq => termvr.one4 w3b _ _ _ _ _ q x hq) (termvr.four_one rfl rfl rfl rfl) (by unfold maxLen; omega) (by omega) (by simp; omega) ?_; intro g4b cap4b w5b hownb hgrb hg4b hlt4b _; have HNb := Lib.hid (HSb.out.next hgw hBg HTb.out HHb.out HRb.out HWb.out hownb hgrb hg4b hlt4b); obtain ⟨⟨_, _, _, y3b⟩, _, _, _, z3b⟩ := HNb.out.2.cells; clear hownb hgrb hg4b hlt4b)
                              refine hK.out _ _ ?_ (fun hHd4 => ?_)
                              · trivial
                              clear hK K hHd3
                              (try simp only [Act.put]); (try simp only [List.setIfInBounds_toArray]); (try simp only [List.set_cons_succ, List.set_cons_zero])
                              refine wpAnyH_take (i := 9) (v := ?_) rfl (by kernel_rfl) (by kernel_rfl) (by kernel_rfl) (fun _ _ _ h => h) (Or.inl ⟨by rfl, ?_⟩) trivial ?_
                              rotate_left
                              · intro w hSw; (try dsimp only at hSw); go_simp <;> with_reducible rfl
                              (try simp only [Act.put]); (try simp only [List.setIfInBounds_toArray]); (try simp only [List.set_cons_succ, List.set_cons_zero])
                              refine wpAnyH_ready (rs := [10]) (by kernel_rfl) (by simp) ?_
                              refine AllReadyH.cons (o := _) rfl (fun K hK => ?_) ?_
                              · go_simp
                                refine hK.out _ _ ?_ (fun hHd5 => ?_)
                                · trivial
                                clear hK K hHd4
                                (try simp only [Act.put]); (try simp only [List.setIfInBounds_toArray]); (try simp only [List.set_cons_succ, List.set_cons_zero])
                                refine wpAnyH_done (by kernel_rfl) ?_ _
                                refine NoPanic.normal ?_
                                have HS1b : Hid (St B n g W0 v w k (3 + x) g4b 3 cap4b [t0, ta, tb] (w2.heap.size + 1) (w5b.setCell ⟨w2.heap.size + 1, 3, none⟩ (.slice (some ⟨g4b, 0, none⟩) 3 cap4b))) := Lib.hid HNb.out.1
                                clear HNb y3b z3b
                                generalize w5b.setCell ⟨w2.heap.size + 1, 3, none⟩ (.slice (some ⟨g4b, 0, none⟩) 3 cap4b) = W5b at HS1b ⊢
                                obtain ⟨⟨c0, c1, c2, c3⟩, f0, f1, f2, f3⟩ := HS1b.out.res.cells
                                obtain ⟨⟨b0, b1, b2, b3⟩, _⟩ := HS1b.out.box.cells
                                go_wp2
                                refine bodyPost_ret (v := .agg #[.int .i64 (3 + x), .string (bstr []), .int .i64 0, .slice (some ⟨g4b, 0, none⟩) 3 cap4b]) (by simp [results, Try.results18, go_sem, c0, c1, c2, c3, bstr]) rfl ?_
                                exact fin_node HS1b.out (by omega) (by omega) ⟨by omega, by omega⟩ (by simp)
                              exact AllReadyH.nil
                            exact AllReadyH.nil
                          exact AllReadyH.nil
                        exact AllReadyH.nil
                      refine AllReadyH.cons (o := _) rfl (fun K hK => ?_) ?_
                      · (go_simp; (with_reducible refine (HRA.out _ HDcb.out).mono ?_); rintro e w3b ⟨tb, vab, rfl, hhb, hrb, hsb⟩; obtain ⟨Ab, cb, rfl, _⟩ := HasR.shape hhb rfl; have HHb := Lib.hid hhb; have HRb := Lib.hid hrb; have HTb := Lib.hid hsb; have hxb := (box_grown (box_below HSb.out.box (Below.refl _ _).drew) hsb.2 (by omega)).cells.1.2.2.2; have hltb : (w2.heap.size + 1) < w3b.heap.size := (Array.getElem?_eq_some_iff.1 (box_grown (box_below HSb.out.box (Below.refl _ _).drew) hsb.2 (by omega))).1; have hzb : w6.heap.size ≤ w3b.heap.size := hsb.2.size; clear hhb hrb hsb; (try dsimp only))
                        refine hK.out _ _ ?_ (fun hHd6 => ?_)
                        · trivial
                        clear hK K hHd0
                        (try simp only [Act.put]); (try simp only [List.setIfInBounds_toArray]); (try simp only [List.set_cons_succ, List.set_cons_zero])
                        refine wpAnyH_ready (rs := [1, 7]) (by kernel_rfl) (by simp) ?_
                        refine AllReadyH.cons (o := _) rfl (fun K hK => ?_) ?_
                        · go_simp
                          refine hK.out _ _ ?_ (fun hHd7 => ?_)
                          · trivial
                          clear hK K hHd6
                          (try simp only [Act.put]); (try simp only [List.setIfInBounds_toArray]); (try simp only [List.set_cons_succ, List.set_cons_zero])
                          refine wpAnyH_ready (rs := [7]) (by kernel_rfl) (by simp) ?_
                          refine AllReadyH.cons (o := _) rfl (fun K hK => ?_) ?_
                          · go_simp
                            refine hK.out _ _ ?_ (fun hHd8 => ?_)
                            · trivial
                            clear hK K hHd7
                            (try simp only [Act.put]); (try simp only [List.setIfInBounds_toArray]); (try simp only [List.set_cons_succ, List.set_cons_zero])
                            refine wpAnyH_ready (rs := [8]) (by kernel_rfl) (by simp) ?_
                            refine AllReadyH.cons (o := _) rfl (fun K hK => ?_) ?_
                            · (refine step_append_d (by rfl) _ _ _ (by rfl) (w.heap.size + 1) 26 j0 _ 4 56 Try.underlying24 hij hy0 hy1 hy2 rfl (by omega) g4a 2 cap4a _ (by rfl) (own_below (own_grown (own_below HWb.out (Below.refl _ _).drew) HTb.out.2 (by omega)) ((Below.refl _ _).alloc (Nat.le_refl _) _)) ⟨w3b.heap.size, 0, none⟩ 1 1 [.int .i64 tb.op, .string (bstr tb.name), .int .i64 tb.sort, .slice Ab tb.args.length cb] (by rfl) (by rfl) (fun q x hq => termvr.one4 w3b _ _ _ _ _ q x hq) (termvr.four_one rfl rfl rfl rfl) (by unfold maxLen; omega) (by omega) (by simp; omega) ?_; intro g4b cap4b w5b hownb hgrb hg4b hlt4b _; have HNb := Lib.hid (HSb.out.next hgw hBg HTb.out HHb.out HRb.out HWb.out hownb hgrb hg4b hlt4b); obtain ⟨⟨_, _, _, y3b⟩, _, _, _, z3b⟩ := HNb.out.2.cells; clear hownb hgrb hg4b hlt4b)
                              refine hK.out _ _ ?_ (fun hHd9 => ?_)
                              · trivial
                              clear hK K hHd8
                              (try simp only [Act.put]); (try simp only [List.setIfInBounds_toArray]); (try simp only [List.set_cons_succ, List.set_cons_zero])
                              refine wpAnyH_take (i := 9) (v := ?_) rfl (by kernel_rfl) (by kernel_rfl) (by kernel_rfl) (fun _ _ _ h => h) (Or.inl ⟨by rfl, ?_⟩) trivial ?_
                              rotate_left
                              · intro w hSw; (try dsimp only at hSw); go_simp <;> with_reducible rfl
                              (try simp only [Act.put]); (try simp only [List.setIfInBounds_toArray]); (try simp only [List.set_cons_succ, List.set_cons_zero])
                              refine wpAnyH_ready (rs := [10]) (by kernel_rfl) (by simp) ?_
                              refine AllReadyH.cons (o := _) rfl (fun K hK => ?_) ?_
                              · go_simp
                                refine hK.out _ _ ?_ (fun hHd10 => ?_)
                                · trivial
                                clear hK K hHd9
                                (try simp only [Act.put]); (try simp only [List.setIfInBounds_toArray]); (try simp only [List.set_cons_succ, List.set_cons_zero])
                                refine wpAnyH_done (by kernel_rfl) ?_ _
                                refine NoPanic.normal ?_
                                have HS1b : Hid (St B n g W0 v w k (3 + x) g4b 3 cap4b [t0, ta, tb] (w2.heap.size + 1) (w5b.setCell ⟨w2.heap.size + 1, 3, none⟩ (.slice (some ⟨g4b, 0, none⟩) 3 cap4b))) := Lib.hid HNb.out.1
                                clear HNb y3b z3b
                                generalize w5b.setCell ⟨w2.heap.size + 1, 3, none⟩ (.slice (some ⟨g4b, 0, none⟩) 3 cap4b) = W5b at HS1b ⊢
                                obtain ⟨⟨c0, c1, c2, c3⟩, f0, f1, f2, f3⟩ := HS1b.out.res.cells
                                obtain ⟨⟨b0, b1, b2, b3⟩, _⟩ := HS1b.out.box.cells
                                go_wp2
                                refine bodyPost_ret (v := .agg #[.int .i64 (3 + x), .string (bstr []), .int .i64 0, .slice (some ⟨g4b, 0, none⟩) 3 cap4b]) (by simp [results, Try.results18, go_sem, c0, c1, c2, c3, bstr]) rfl ?_
                                exact fin_node HS1b.out (by omega) (by omega) ⟨by omega, by omega⟩ (by simp)
                              exact AllReadyH.nil
                            exact AllReadyH.nil
                          exact AllReadyH.nil
                        refine AllReadyH.cons (o := _) rfl (fun K hK => ?_) ?_
                        · go_simp
                          refine hK.out _ _ ?_ (fun hHd11 => ?_)
                          · trivial
                          clear hK K hHd6
                          (try simp only [Act.put]); (try simp only [List.setIfInBounds_toArray]); (try simp only [List.set_cons_succ, List.set_cons_zero])
                          refine wpAnyH_ready (rs := [1]) (by kernel_rfl) (by simp) ?_
                          refine AllReadyH.cons (o := _) rfl (fun K hK => ?_) ?_
                          · go_simp
                            refine hK.out _ _ ?_ (fun hHd12 => ?_)
                            · trivial
                            clear hK K hHd11
                            (try simp only [Act.put]); (try simp only [List.setIfInBounds_toArray]); (try simp only [List.set_cons_succ, List.set_cons_zero])
                            refine wpAnyH_ready (rs := [8]) (by kernel_rfl) (by simp) ?_
                            refine AllReadyH.cons (o := _) rfl (fun K hK => ?_) ?_
                            · (refine step_append_d (by rfl) _ _ _ (by rfl) (w.heap.size + 1) 26 j0 _ 4 56 Try.underlying24 hij hy0 hy1 hy2 rfl (by omega) g4a 2 cap4a _ (by rfl) (own_below (own_grown (own_below HWb.out (Below.refl _ _).drew) HTb.out.2 (by omega)) ((Below.refl _ _).alloc (Nat.le_refl _) _)) ⟨w3b.heap.size, 0, none⟩ 1 1 [.int .i64 tb.op, .string (bstr tb.name), .int .i64 tb.sort, .slice Ab tb.args.length cb] (by rfl) (by rfl) (fun q x hq => termvr.one4 w3b _ _ _ _ _ q x hq) (termvr.four_one rfl rfl rfl rfl) (by unfold maxLen; omega) (by omega) (by simp; omega) ?_; intro g4b cap4b w5b hownb hgrb hg4b hlt4b _; have HNb := Lib.hid (HSb.out.next hgw hBg HTb.out HHb.out HRb.out HWb.out hownb hgrb hg4b hlt4b); obtain ⟨⟨_, _, _, y3b⟩, _, _, _, z3b⟩ := HNb.out.2.cells; clear hownb hgrb hg4b hlt4b)
                              refine hK.out _ _ ?_ (fun hHd13 => ?_)
                              · trivial
                              clear hK K hHd12
                              (try simp only [Act.put]); (try simp only [List.setIfInBounds_toArray]); (try simp only [List.set_cons_succ, List.set_cons_zero])
                              refine wpAnyH_take (i := 9) (v := ?_) rfl (by kernel_rfl) (by kernel_rfl) (by kernel_rfl) (fun _ _ _ h => h) (Or.inl ⟨by rfl, ?_⟩) trivial ?_
                              rotate_left
                              · intro w hSw; (try dsimp only at hSw); go_simp <;> with_reducible rfl
                              (try simp only [Act.put]); (try simp only [List.setIfInBounds_toArray]); (try simp only [List.set_cons_succ, List.set_cons_zero])
                              refine wpAnyH_ready (rs := [10]) (by kernel_rfl) (by simp) ?_
                              refine AllReadyH.cons (o := _) rfl (fun K hK => ?_) ?_
                              · go_simp
                                refine hK.out _ _ ?_ (fun hHd14 => ?_)
                                · trivial
                                clear hK K hHd13
                                (try simp only [Act.put]); (try simp only [List.setIfInBounds_toArray]); (try simp only [List.set_cons_succ, List.set_cons_zero])
                                refine wpAnyH_done (by kernel_rfl) ?_ _
                                refine NoPanic.normal ?_
                                have HS1b : Hid (St B n g W0 v w k (3 + x) g4b 3 cap4b [t0, ta, tb] (w2.heap.size + 1) (w5b.setCell ⟨w2.heap.size + 1, 3, none⟩ (.slice (some ⟨g4b, 0, none⟩) 3 cap4b))) := Lib.hid HNb.out.1
                                clear HNb y3b z3b
                                generalize w5b.setCell ⟨w2.heap.size + 1, 3, none⟩ (.slice (some ⟨g4b, 0, none⟩) 3 cap4b) = W5b at HS1b ⊢
                                obtain ⟨⟨c0, c1, c2, c3⟩, f0, f1, f2, f3⟩ := HS1b.out.res.cells
                                obtain ⟨⟨b0, b1, b2, b3⟩, _⟩ := HS1b.out.box.cells
                                go_wp2
                                refine bodyPost_ret (v := .agg #[.int .i64 (3 + x), .string (bstr []), .int .i64 0, .slice (some ⟨g4b, 0, none⟩) 3 cap4b]) (by simp [results, Try.results18, go_sem, c0, c1, c2, c3, bstr]) rfl ?_
                                exact fin_node HS1b.out (by omega) (by omega) ⟨by omega, by omega⟩ (by simp)
                              exact AllReadyH.nil
                            exact AllReadyH.nil
                          exact AllReadyH.nil
                        exact AllReadyH.nil
                      exact AllReadyH.nil
                  exact AllReadyH.nil
                exact AllReadyH.nil
              exact AllReadyH.nil
            exact AllReadyH.nil
          exact AllReadyH.nil
theorem raw_all : ∀ d, d ≤ 20 → RawT d
  | 0, h => raw_step h (fun k e => by omega)
  | d + 1, h => raw_step h (fun k e => Nat.succ.inj e ▸ raw_all d (by omega))
end Go.Proofs.Ytkkmjaggebjcbaa.drawt
