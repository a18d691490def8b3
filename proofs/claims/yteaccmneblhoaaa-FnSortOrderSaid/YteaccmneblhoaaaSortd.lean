/-
  THE DRAWS OF SORTS: l3Draw, DrawAboveSort, DrawLeastSorts.
-/
import Derived.Test.YteaccmneblhoaaaDraw
import Derived.Test.YteaccmneblhoaaaSorti
import Derived.Deep.AppendLies
import Derived.Deep.RegionLaw
namespace Go.Proofs.Yteaccmneblhoaaa.sortd
open Go.ChangeShapes Go.WideShapes Go.ChangeAt Go.RowKit
open mem split strl subs sorti draw sets

theorem Step.over {B n g : Nat} {W0 a b c : World} {v : Value} (h : Step B W0 v n g a b) (hb : Below a.heap.size b c) (hB : B ≤ a.heap.size) (hg : g < a.heap.size) : Step B W0 v n g a c := by
  obtain ⟨⟨h1, h2, i, hh, hi, hc⟩, h3⟩ := h
  have hab := h3.size
  refine ⟨⟨h1, h2.trans (hb.mono hB), i, hh, hi, (hb.block g hg).trans hc⟩, ?_⟩
  exact ⟨hb.os.trans h3.os, hb.tape.trans h3.tape, hb.output.trans h3.output, Nat.le_trans hab hb.size, fun k hk hne => (hb.block k hk).trans (h3.block k hk hne)⟩
theorem six_cells (w : World) (cs : List Value) (t : TypeId) (m : Nat) : ∀ (j : Nat) (x : Value), (cs.take m)[j]? = some x → (w.alloc (.cells cs.toArray t)).cell? ((⟨w.heap.size, 0, none⟩ : Addr).add j) = some x := by
  intro j x hj
  rw [Addr.add_lit, Nat.zero_add, cell_of_row _ _ j cs.toArray t (0, 0) (heap_alloc_new w _)]
  rw [List.getElem?_take] at hj
  split at hj
  · simpa using hj
  · cases hj
theorem own_step {B n g : Nat} {W0 a b : World} {v : Value} (h : Step B W0 v n g a b) {base m size : Nat} {e : TypeId} {u : Value} {xs : List Value} (ho : a.ownsRow base e size u m xs) (hg : g < base) : b.ownsRow base e size u m xs := own_grown ho h.2 hg
theorem cells_step {B n g : Nat} {W0 a b : World} {v : Value} (h : Step B W0 v n g a b) {k : Nat} {o : Obj} (hk : a.heap[k]? = some o) (hne : k ≠ g) : b.heap[k]? = some o :=
  (h.2.block k (Array.getElem?_eq_some_iff.1 hk).1 (by simpa using hne)).trans hk
/-- what l3Draw gives -/
def Drawn (w : World) (base : Nat) (va vb : Value) (P : List (List UInt8)) (Q : List (Int × Int)) : Prop :=
  w.ownsRow base 9 1 va P.length (ssv P) ∧ w.ownsRow base 66 2 vb Q.length (pcs Q) ∧ (∀ k, k < P.length → (P.getD k []).length ≤ maxLen) ∧ In64 Q ∧ 1 ≤ P.length ∧ P.length ≤ 6
theorem Drawn.has {w : World} {base : Nat} {va vb : Value} {P : List (List UInt8)} {Q : List (Int × Int)} (h : Drawn w base va vb P Q) : HasS w va vb P Q := ⟨Has.of_own h.1, HasP.of_own h.2.1, h.2.2.1, h.2.2.2.1⟩
theorem Drawn.step {B n g : Nat} {W0 a b : World} {v : Value} (h : Step B W0 v n g a b) {base : Nat} {va vb : Value} {P : List (List UInt8)} {Q : List (Int × Int)} (ho : Drawn a base va vb P Q) (hg : g < base) : Drawn b base va vb P Q :=
  ⟨own_step h ho.1 hg, own_step h ho.2.1 hg, ho.2.2⟩
theorem Drawn.below {a b : World} (h : Below a.heap.size a b) {base : Nat} {va vb : Value} {P : List (List UInt8)} {Q : List (Int × Int)} (ho : Drawn a base va vb P Q) : Drawn b base va vb P Q :=
  ⟨own_below ho.1 h, own_below ho.2.1 h, ho.2.2⟩
theorem in64_snoc {Q : List (Int × Int)} (h : In64 Q) {x y : Int} (hx : -9223372036854775808 ≤ x ∧ x ≤ 9223372036854775807) (hy : -9223372036854775808 ≤ y ∧ y ≤ 9223372036854775807) : In64 (Q ++ [(x, y)]) := by
  intro p hp
  rcases List.mem_append.1 hp with hp | hp
  · exact h p hp
  · simp at hp; subst hp; exact ⟨hx, hy⟩
theorem two_one (a b : Int) : ∀ x ∈ ([.int .i64 a, .int .i64 b] : List Value), x.oneCell' = true := by
  intro x hx
  simp at hx
  rcases hx with rfl | rfl <;> rfl
theorem two_cells (w : World) (a b : Value) (t : TypeId) : ∀ (j : Nat) (x : Value), [a, b][j]? = some x → (w.alloc (.cells #[a, b] t)).cell? ((⟨w.heap.size, 0, none⟩ : Addr).add j) = some x := by
  intro j x hj
  match j, hj with
  | 0, hj => simp at hj; subst hj; simp [Addr.add]
  | 1, hj => simp at hj; subst hj; simp [Addr.add]
theorem own_base {w : World} {base base' n : Nat} {e : TypeId} {size : Nat} {v : Value} {xs : List Value} (h : w.ownsRow base e size v n xs) (hb : base' ≤ base) : w.ownsRow base' e size v n xs := by
  refine ⟨h.1, ?_⟩
  rcases h.2 with h2 | ⟨g, cap, cur, hv, hg, r⟩
  · exact .inl h2
  · exact .inr ⟨g, cap, cur, hv, by omega, r⟩
/-- a row stays where its own block stays -/
theorem own_at {w w' : World} {base m gn cap size : Nat} {e : TypeId} {xs : List Value} (h : w.ownsRow base e size (.slice (some ⟨gn, 0, none⟩) m cap) m xs) (hk : w'.heap[gn]? = w.heap[gn]?) : w'.ownsRow base e size (.slice (some ⟨gn, 0, none⟩) m cap) m xs := by
  refine ⟨h.1, ?_⟩
  rcases h.2 with ⟨h2, _⟩ | ⟨g, cap, cur, hv, hg, hh, r⟩
  · cases h2
  · refine .inr ⟨g, cap, cur, hv, hg, ?_, r⟩
    simp only [Value.slice.injEq, Option.some.injEq, Addr.mk.injEq] at hv
    rw [← hv.1.1] at hh ⊢
    rw [hk]; exact hh
/-- the state of a draw: the box bs holds the names va and the pairs vb -/
structure St (B : Nat) (W0 : World) (v : Value) (n g : Nat) (w wr : World) (bs : Nat) (va : Value) (P : List (List UInt8)) (vb : Value) (Q : List (Int × Int)) : Prop where
  box : wr.heap[bs]? = some (.cells #[va, vb] 27 (0, 0))
  res : wr.heap[w.heap.size]? = some (.cells #[.slice none 0 0, .slice none 0 0] 27 (0, 0))
  nam : wr.ownsRow (w.heap.size + 1) 9 1 va P.length (ssv P)
  sub : wr.ownsRow (bs + 1) 66 2 vb Q.length (pcs Q)
  q64 : In64 Q
  hs : Step B W0 v n g w wr
theorem St.step {B : Nat} {W0 : World} {v : Value} {n g : Nat} {w wr w' : World} {bs : Nat} {va : Value} {P : List (List UInt8)} {vb : Value} {Q : List (Int × Int)} (h : St B W0 v n g w wr bs va P vb Q) (hg : g < w.heap.size) (hb : w.heap.size < bs)
    (hst : Step B W0 v n g wr w') : St B W0 v n g w w' bs va P vb Q :=
  ⟨cells_step hst h.box (by omega), cells_step hst h.res (by omega), own_step hst h.nam (by omega), own_step hst h.sub (by omega), h.q64, h.hs.trans hst⟩
theorem St.lt {B : Nat} {W0 : World} {v : Value} {n g : Nat} {w wr : World} {bs : Nat} {va : Value} {P : List (List UInt8)} {vb : Value} {Q : List (Int × Int)} (h : St B W0 v n g w wr bs va P vb Q) : bs < wr.heap.size := (Array.getElem?_eq_some_iff.1 h.box).1
theorem St.cells {B : Nat} {W0 : World} {v : Value} {n g : Nat} {w wr : World} {bs : Nat} {va : Value} {P : List (List UInt8)} {vb : Value} {Q : List (Int × Int)} (h : St B W0 v n g w wr bs va P vb Q) :
    wr.cell? ⟨bs, 0, none⟩ = some va ∧ wr.cell? ⟨bs, 1, none⟩ = some vb ∧ wr.frozen? ⟨bs, 1, none⟩ = false :=
  ⟨cell_of_row wr bs 0 _ _ _ h.box, cell_of_row wr bs 1 _ _ _ h.box, frozen_of_row wr bs 1 _ _ h.box⟩
/-- behind an append to the pairs -/
theorem St.grown {B : Nat} {W0 : World} {v : Value} {n g : Nat} {w wr w2 : World} {bs gn np cap : Nat} {P : List (List UInt8)} {vb : Value} {Q : List (Int × Int)}
    (h : St B W0 v n g w wr bs (.slice (some ⟨gn, 0, none⟩) np cap) P vb Q) {o : Obj} (hgrow : (wr.alloc o).grownBy w2 vb.ownBlock) :
    w2.cell? ⟨bs, 1, none⟩ = some vb ∧ w2.frozen? ⟨bs, 1, none⟩ = false := by
  have hlt := h.lt
  have ho := own_block h.sub
  have hne : some bs ≠ vb.ownBlock := fun e => by have := ho bs e.symm; omega
  have hbx : w2.heap[bs]? = some (.cells #[.slice (some ⟨gn, 0, none⟩) np cap, vb] 27 (0, 0)) := (hgrow.block bs (by simp; omega) hne).trans ((Below.heap_alloc _ _ _ hlt).trans h.box)
  exact ⟨cell_of_row w2 bs 1 _ _ _ hbx, frozen_of_row w2 bs 1 _ _ hbx⟩
theorem St.push {B : Nat} {W0 : World} {v : Value} {n g : Nat} {w wr w2 : World} {bs gn np cap : Nat} {P : List (List UInt8)} {vb v2 : Value} {Q : List (Int × Int)} {a b : Int}
    (h : St B W0 v n g w wr bs (.slice (some ⟨gn, 0, none⟩) np cap) P vb Q) (hnp : P.length = np) (hgn : gn < bs) (hb : w.heap.size < bs) (hB : B ≤ w.heap.size) (hg : g < w.heap.size)
    (ha : -9223372036854775808 ≤ a ∧ a ≤ 9223372036854775807) (hb64 : -9223372036854775808 ≤ b ∧ b ≤ 9223372036854775807) {o : Obj}
    (hown : w2.ownsRow (bs + 1) 66 2 v2 (Q.length + 1) (pcs Q ++ [.int .i64 a, .int .i64 b])) (hgrow : (wr.alloc o).grownBy w2 vb.ownBlock) :
    St B W0 v n g w (w2.setCell ⟨bs, 1, none⟩ v2) bs (.slice (some ⟨gn, 0, none⟩) np cap) P v2 (Q ++ [(a, b)]) := by
  have hlt := h.lt
  have ho := own_block h.sub
  have hne : ∀ k, k < bs + 1 → some k ≠ vb.ownBlock := fun k hk e => by have := ho k e.symm; omega
  have hkeep : ∀ k, k < bs + 1 → w2.heap[k]? = wr.heap[k]? := fun k hk => (hgrow.block k (by simp; omega) (hne k hk)).trans (Below.heap_alloc _ _ _ (by omega))
  have hbel : Below w.heap.size wr (w2.setCell ⟨bs, 1, none⟩ v2) := by
    have h1 : Below w.heap.size wr (wr.alloc o) := (Below.refl _ _).alloc (by omega) o
    exact (h1.grown hgrow (by simp; omega) (fun k hk => by have := ho k hk; omega)).setCell (by show w.heap.size ≤ bs; omega) _
  refine ⟨?_, ?_, ?_, ?_, in64_snoc h.q64 ha hb64, Step.over h.hs hbel hB hg⟩
  · have := heap_setCell_same w2 bs 1 _ _ v2 ((hkeep bs (by omega)).trans h.box)
    simpa using this
  · rw [Below.heap_setCell _ _ _ _ (by show w.heap.size ≠ bs; omega), hkeep _ (by omega)]; exact h.res
  · have hn := h.nam
    rw [hnp] at hn ⊢
    exact own_at hn (by rw [Below.heap_setCell _ _ _ _ (by show gn ≠ bs; omega), hkeep _ (by omega)])
  · have := own_grown hown (grown_set (g := bs) (World.grownBy.refl _ _) 1 v2) (by omega)
    rw [List.length_append, pcs_append]
    simpa [pcs] using this
theorem St.over {B : Nat} {W0 : World} {v : Value} {n g : Nat} {w wr w' : World} {bs : Nat} {va : Value} {P : List (List UInt8)} {vb : Value} {Q : List (Int × Int)} (h : St B W0 v n g w wr bs va P vb Q) (hB : B ≤ w.heap.size) (hg : g < w.heap.size) (hb : w.heap.size < bs)
    (hw : Below wr.heap.size wr w') : St B W0 v n g w w' bs va P vb Q := by
  have hlt := h.lt
  exact ⟨(hw.block _ hlt).trans h.box, (hw.block _ (by omega)).trans h.res, own_below h.nam hw, own_below h.sub hw, h.q64, Step.over h.hs (hw.mono (by omega)) hB hg⟩
theorem St.name {B : Nat} {W0 : World} {v : Value} {n g : Nat} {w wr : World} {bs gn np cap : Nat} {P : List (List UInt8)} {vb : Value} {Q : List (Int × Int)}
    (h : St B W0 v n g w wr bs (.slice (some ⟨gn, 0, none⟩) np cap) P vb Q) (hnp : P.length = np) (hgn : gn < bs) (hb : w.heap.size < bs) (hB : B ≤ w.heap.size) (hg : g < w.heap.size) (l : List UInt8) :
    St B W0 v n g w (wr.setCell ⟨gn, 0, none⟩ (.string (bstr l))) bs (.slice (some ⟨gn, 0, none⟩) np cap) (P.set 0 l) vb Q := by
  have hn := h.nam
  have ho := own_block hn gn rfl
  refine ⟨?_, ?_, ?_, own_grown h.sub (grown_set (World.grownBy.refl _ _) _ _) (by omega), h.q64, Step.over h.hs ((Below.refl _ _).setCell (by show w.heap.size ≤ gn; omega) _) hB hg⟩
  · rw [Below.heap_setCell _ _ _ _ (by show bs ≠ gn; omega)]; exact h.box
  · rw [Below.heap_setCell _ _ _ _ (by show w.heap.size ≠ gn; omega)]; exact h.res
  · rw [List.length_set, hnp]
    rw [hnp] at hn
    have := setCell_own hn 0 (.string (bstr l))
    rw [show (ssv P).set 0 (.string (bstr l)) = ssv (P.set 0 l) by simp [ssv, List.map_set]] at this
    exact this
theorem St.done {B : Nat} {W0 : World} {v : Value} {n g : Nat} {w wr : World} {bs : Nat} {va : Value} {P : List (List UInt8)} {vb : Value} {Q : List (Int × Int)} (h : St B W0 v n g w wr bs va P vb Q) (hb : w.heap.size < bs) (hB : B ≤ w.heap.size) (hg : g < w.heap.size)
    (hs : ∀ k, k < P.length → (P.getD k []).length ≤ maxLen) (h1 : 1 ≤ P.length) (h6 : P.length ≤ 6) :
    Drawn ((wr.setCell ⟨w.heap.size, 0, none⟩ va).setCell ⟨w.heap.size, 1, none⟩ vb) w.heap.size va vb P Q ∧ Step B W0 v n g w ((wr.setCell ⟨w.heap.size, 0, none⟩ va).setCell ⟨w.heap.size, 1, none⟩ vb) := by
  refine ⟨⟨?_, ?_, hs, h.q64, h1, h6⟩, Step.over h.hs (((Below.refl w.heap.size wr).setCell (p := ⟨w.heap.size, 0, none⟩) (Nat.le_refl _) va).setCell (p := ⟨w.heap.size, 1, none⟩) (Nat.le_refl _) vb) hB hg⟩
  · exact own_base (own_grown (own_grown h.nam (grown_set (World.grownBy.refl _ _) _ _) (by omega)) (grown_set (World.grownBy.refl _ _) _ _) (by omega)) (by omega)
  · exact own_base (own_grown (own_grown h.sub (grown_set (World.grownBy.refl _ _) _ _) (by omega)) (grown_set (World.grownBy.refl _ _) _ _) (by omega)) (by omega)
theorem St.rcells {B : Nat} {W0 : World} {v : Value} {n g : Nat} {w wr : World} {bs : Nat} {va : Value} {P : List (List UInt8)} {vb : Value} {Q : List (Int × Int)} (h : St B W0 v n g w wr bs va P vb Q) :
    wr.cell? ⟨w.heap.size, 0, none⟩ = some (.slice none 0 0) ∧ wr.cell? ⟨w.heap.size, 1, none⟩ = some (.slice none 0 0) ∧ wr.frozen? ⟨w.heap.size, 0, none⟩ = false ∧ wr.frozen? ⟨w.heap.size, 1, none⟩ = false :=
  ⟨cell_of_row wr _ 0 _ _ _ h.res, cell_of_row wr _ 1 _ _ _ h.res, frozen_of_row wr _ 0 _ _ h.res, frozen_of_row wr _ 1 _ _ h.res⟩
theorem St.ncells {B : Nat} {W0 : World} {v : Value} {n g : Nat} {w wr : World} {bs gn np cap : Nat} {P : List (List UInt8)} {vb : Value} {Q : List (Int × Int)}
    (h : St B W0 v n g w wr bs (.slice (some ⟨gn, 0, none⟩) np cap) P vb Q) (hnp : P.length = np) (h1 : 1 ≤ np) : (∃ d, wr.cell? ⟨gn, 0, none⟩ = some d) ∧ wr.frozen? ⟨gn, 0, none⟩ = false := by
  have hn := h.nam
  rw [hnp] at hn
  refine ⟨?_, hn.frozenAt 0⟩
  rw [hn.cellAt 0 (by omega)]
  exact ⟨_, List.getElem?_eq_getElem (by have := hn.1; omega)⟩
theorem St.all {B : Nat} {W0 : World} {v : Value} {n g : Nat} {w wr : World} {bs gn np cap : Nat} {P : List (List UInt8)} {vb : Value} {Q : List (Int × Int)}
    (h : St B W0 v n g w wr bs (.slice (some ⟨gn, 0, none⟩) np cap) P vb Q) (hnp : P.length = np) (h1 : 1 ≤ np) :
    (wr.cell? ⟨bs, 0, none⟩ = some (.slice (some ⟨gn, 0, none⟩) np cap) ∧ wr.cell? ⟨gn, 0, none⟩ = some (.string (bstr (P.getD 0 []))) ∧ wr.frozen? ⟨gn, 0, none⟩ = false) ∧ St B W0 v n g w wr bs (.slice (some ⟨gn, 0, none⟩) np cap) P vb Q := by
  have hn := h.nam
  rw [hnp] at hn
  refine ⟨⟨h.cells.1, ?_, hn.frozenAt 0⟩, h⟩
  rw [hn.cellAt 0 (by omega)]
  have : (ssv P)[0]? = some ((ssv P).getD 0 undef) := by
    rw [List.getElem?_eq_getElem (by rw [ssv_len]; omega)]; simp [List.getD, List.getElem?_eq_getElem (show 0 < (ssv P).length by rw [ssv_len]; omega)]
  rw [this, ssv_get P 0 (by omega)]
def picks : List (List UInt8) := [[], [66], [97, 32, 98], [120, 49]]
theorem short_set {P : List (List UInt8)} (h : ∀ k, k < P.length → (P.getD k []).length ≤ maxLen) {l : List UInt8} (hl : l ∈ picks) : ∀ k, k < (P.set 0 l).length → ((P.set 0 l).getD k []).length ≤ maxLen := by
  intro k hk
  rw [List.length_set] at hk
  by_cases h0 : k = 0
  · subst h0
    have : (P.set 0 l).getD 0 [] = l := by simp [List.getD, hk]
    rw [this]
    have h3 : ∀ l ∈ picks, l.length ≤ 3 := by decide
    have := h3 l hl
    unfold maxLen; omega
  · have : (P.set 0 l).getD k [] = P.getD k [] := by simp [List.getD, List.getElem?_set_ne (Ne.symm h0)]
    rw [this]; exact h k hk
theorem pick_of {x : Value} (h : x ∈ ssv picks) : ∃ l, x = .string (bstr l) ∧ l ∈ picks := by
  simp only [ssv, List.mem_map] at h
  obtain ⟨l, hl, rfl⟩ := h
  exact ⟨l, rfl, hl⟩
def abc : List (List UInt8) := [[65], [66], [67], [68], [69], [70]]
set_option maxHeartbeats 4000000 in
set_option maxRecDepth 20000 in
/-- spec.l3Draw -/
theorem l3Draw_any {B n g : Nat} {W0 : World} {v : Value} (hcode : draw.Code B W0 v n) (w : World) (h : Cur B W0 v n g w) (hBw : B ≤ w.heap.size) :
    Calls Try.prog 34 #[.pointer (some ⟨g, 0, none⟩)] w fun e w' => ∃ va vb P Q, e = .returned (.agg #[va, vb]) ∧ Drawn w' w.heap.size va vb P Q ∧ Step B W0 v n g w w' := by
  obtain ⟨i0, hi, hz0, hz1, hz2⟩ := info_parts info_str
  obtain ⟨j0, hij, hy0, hy1, hy2⟩ := info_parts info_sub
  have HC := Lib.hid h
  have hgw := h.lt.2
  have CB := Lib.hid (fun m hm0 hm W hW => below_any (g := g) hcode m hm0 hm W hW)
  have CO := Lib.hid (fun m hm0 hm W hW => once_any (g := g) hcode m hm0 hm W hW)
  have CP := Lib.hid (fun L hL m hm0 hm u base hgb W hW hown => pick_any (g := g) hcode L hL m hm0 hm u base hgb W hW hown)
  clear h hcode
  go_enter Try.func34, Try.ntmps34
  go_wp2_with fail
  have HS0 : Hid (Step B W0 v n g w (w.alloc (.cells #[.slice none 0 0, .slice none 0 0] 27))) := Lib.hid ((Step.refl HC.out).alloc _)
  refine (CB.out 6 (by omega) (by omega) _ HS0.out.1).mono ?_; rintro e w1 ⟨x, rfl, hx0, hx1, hs1⟩
  have HS1 := Lib.hid (HS0.out.trans hs1)
  have hr0 : w1.heap[w.heap.size]? = some (.cells #[.slice none 0 0, .slice none 0 0] 27 (0, 0)) := (hs1.2.block _ (by simp) (by simp; omega)).trans (heap_alloc_new w _)
  have HR0 := Lib.hid hr0
  have hz1' : w.heap.size < w1.heap.size := by have := hs1.2.size; simp at this; omega
  clear hs1 hr0 HS0
  obtain ⟨k, rfl⟩ : ∃ k : Nat, x = (k : Int) := ⟨x.toNat, by omega⟩
  have hown0 := World.ownsRow_lit (e := 9) (size := 1) w1 #[] 0 (Nat.le_refl _) (by unfold maxLen; omega) rfl
  have HOWN0 := Lib.hid hown0
  clear hown0
  have hnl : (abc.take (1 + k)).length = 1 + k := by rw [List.length_take]; simp [abc]; omega
  go_wp2_with (at_builtin; refine wpList_append_own _ rfl _ _ 24 rfl w1.heap.size 9 i0 (.string .empty) 1 16 Try.underlying24 hi hz0 hz1 hz2 rfl (by decide) _ 0 [] rfl (HOWN0.out.alloc _) ⟨w1.heap.size + 1, 0, none⟩ (1 + k) 6 (ssv (abc.take (1 + k))) rfl ?_ ?_ ?_ (by unfold maxLen; omega) (by omega) (by simp; omega) ?_)
  · rw [ssv_len, hnl]; omega
  · rw [show ssv (abc.take (1 + k)) = (ssv abc).take (1 + k) by simp [ssv, List.map_take]]
    have := six_cells (w1.alloc (.cells #[] 9)) (ssv abc) 9 (1 + k)
    intro j x hjx
    have h2 := this j x hjx
    simpa [ssv, abc, bstr] using h2
  · intro u hu
    simp only [ssv, List.mem_map] at hu
    obtain ⟨x, _, rfl⟩ := hu
    rfl
  intro v2 w2 hown2 hgrow2 _
  obtain ⟨gn, cap, rfl, hgn0, hgn1⟩ := own_shape hown2 (by intro e; have := congrArg List.length e; rw [ssv_len, hnl] at this; simp at this)
  have hsz2 : w1.heap.size + 2 ≤ w2.heap.size := by have := hgrow2.size; simp at this; omega
  have hb12 : Below w1.heap.size w1 w2 := (((Below.refl _ _).alloc (Nat.le_refl _) _).alloc (by simp) _).grown hgrow2 (by simp; omega) (by intro q hq; simp [Value.ownBlock] at hq; omega)
  have HP : ∃ P, P = abc.take (1 + k) := ⟨_, rfl⟩
  obtain ⟨P, hP⟩ := HP
  rw [← hP] at hown2 hnl
  have hshort : ∀ q, q < P.length → (P.getD q []).length ≤ maxLen := by
    intro q hq
    rw [hP, List.length_take] at hq
    have hm : P.getD q [] ∈ abc := by
      rw [hP]
      have h2 : q < (abc.take (1 + k)).length := by rw [List.length_take]; exact hq
      simp only [List.getD, List.getElem?_eq_getElem h2, Option.getD_some]
      exact List.mem_of_mem_take (List.getElem_mem h2)
    have : ∀ l ∈ abc, l.length ≤ 1 := by decide
    have := this _ hm
    unfold maxLen; omega
  have HST : Hid (St B W0 v n g w (w2.alloc (.cells #[.slice (some ⟨gn, 0, none⟩) (1 + k) cap, .slice none 0 0] 27)) w2.heap.size (.slice (some ⟨gn, 0, none⟩) (1 + k) cap) P (.slice none 0 0) []) := Lib.hid (by
    have hbel : Below w1.heap.size w1 (w2.alloc (.cells #[.slice (some ⟨gn, 0, none⟩) (1 + k) cap, .slice none 0 0] 27)) := hb12.alloc (by omega) _
    refine ⟨(MapKept.heap_alloc w2 _).1, (hbel.block _ hz1').trans HR0.out, ?_, ⟨by simp [pcs], .inl ⟨rfl, rfl⟩⟩, fun p hp => by simp at hp, Step.over HS1.out (hbel.mono (by omega)) hBw hgw⟩
    rw [hnl]
    exact own_base (own_below hown2 ((Below.refl _ _).alloc (Nat.le_refl _) _)) (by omega))
  have HSH := Lib.hid hshort
  have HNL := Lib.hid hnl
  have HPP := Lib.hid hP
  obtain ⟨bs, hbs⟩ : ∃ bs, bs = w2.heap.size := ⟨_, rfl⟩
  rw [← hbs] at HST
  have hwbs : w.heap.size < bs := by omega
  have hgnbs : gn < bs := by omega
  clear hown2 hgrow2 hb12 hP hshort hnl HOWN0 HR0
  go_wp2_with fail
  refine (CB.out 6 (by omega) (by omega) _ HST.out.hs.1).mono ?_; rintro e w3 ⟨x2, rfl, hx20, hx21, hs3⟩
  have HST3 := Lib.hid (HST.out.step hgw hwbs hs3)
  clear hs3 HST
  obtain ⟨m, rfl⟩ : ∃ m : Nat, x2 = (m : Int) := ⟨x2.toNat, by omega⟩
  rw [← hbs]
  clear hbs
  go_wp2
  go_loopw [6] (fun i wr => ∃ j : Nat, j ≤ m ∧ i = .int .i64 j ∧ ∃ vb Q, St B W0 v n g w wr bs (.slice (some ⟨gn, 0, none⟩) (1 + k) cap) P vb Q ∧ Q.length ≤ j) (fun i _ => m - (intOf i).toNat)
  case atStart => exact ⟨0, Nat.zero_le _, rfl, _, _, HST3.out, Nat.le_refl _⟩
  case round =>
    obtain ⟨j, hj, rfl, vb, Q, hst, hql⟩ := hrel
    by_cases hlt : j < m
    · have HST4 := Lib.hid hst
      clear hst
      go_wp2_with fail
      refine (CB.out (1 + (k : Int)) (by omega) (by omega) _ HST4.out.hs.1).mono ?_; rintro e w4 ⟨x, rfl, hx0', hx1', hs4⟩
      have HST5 := Lib.hid (HST4.out.step hgw hwbs hs4)
      clear hs4 HST4
      go_wp2_with fail
      refine (CB.out (1 + (k : Int)) (by omega) (by omega) _ HST5.out.hs.1).mono ?_; rintro e w5 ⟨y, rfl, hy0', hy1', hs5⟩
      have HST7 := Lib.hid (HST5.out.step hgw hwbs hs5)
      clear hs5 HST5
      obtain ⟨b0, b1, f1⟩ := HST7.out.cells
      have hb64x : -9223372036854775808 ≤ x ∧ x ≤ 9223372036854775807 := by omega
      have hb64y : -9223372036854775808 ≤ y ∧ y ≤ 9223372036854775807 := by omega
      rcases Int.lt_trichotomy x y with hxy | hxy | hxy
      · have hne : (x != y) = true := by simp; omega
        have hge : decide (y < x) = false := by simp; omega
        go_wp2_with (at_builtin; refine wpList_append_own _ rfl _ _ 25 rfl (bs + 1) 66 j0 _ 2 16 Try.underlying25 hij hy0 hy1 hy2 rfl (by decide) _ _ _ rfl (HST7.out.sub.alloc _) ⟨w5.heap.size, 0, none⟩ 1 1 [.int .i64 x, .int .i64 y] rfl rfl (two_cells _ _ _ _) (two_one _ _) (by unfold maxLen; omega) (by omega) (by have := HST7.out.lt; simp; omega) ?_)
        intro v6 w6 hown6 hgrow6 _
        obtain ⟨g6, cap6, rfl, _, _⟩ := own_shape hown6 (by intro e; have := congrArg List.length e; simp at this)
        obtain ⟨q1, q2⟩ := HST7.out.grown hgrow6
        have HST6 := Lib.hid (HST7.out.push HNL.out hgnbs hwbs hBw hgw hb64x hb64y hown6 hgrow6)
        clear hown6 hgrow6
        go_wp2
        go_roundw
        case rel => exact ⟨j + 1, by omega, by go_num, _, _, HST6.out, by simp; omega⟩
        case measure => simp [intOf]; omega
      · subst hxy
        go_wp2_with fail
        refine (CO.out 20 (by omega) (by omega) _ HST7.out.hs.1).mono ?_; rintro e w7 ⟨o7, rfl, hs7⟩
        have HST8 := Lib.hid (HST7.out.step hgw hwbs hs7)
        clear hs7 HST7 b0 b1 f1
        obtain ⟨b0, b1, f1⟩ := HST8.out.cells
        cases o7 with
        | true =>
          go_wp2_with (at_builtin; refine wpList_append_own _ rfl _ _ 25 rfl (bs + 1) 66 j0 _ 2 16 Try.underlying25 hij hy0 hy1 hy2 rfl (by decide) _ _ _ rfl (HST8.out.sub.alloc _) ⟨w7.heap.size, 0, none⟩ 1 1 [.int .i64 x, .int .i64 x] rfl rfl (two_cells _ _ _ _) (two_one _ _) (by unfold maxLen; omega) (by omega) (by have := HST8.out.lt; simp; omega) ?_)
          intro v6 w6 hown6 hgrow6 _
          obtain ⟨g6, cap6, rfl, _, _⟩ := own_shape hown6 (by intro e; have := congrArg List.length e; simp at this)
          obtain ⟨q1, q2⟩ := HST8.out.grown hgrow6
          have HST6 := Lib.hid (HST8.out.push HNL.out hgnbs hwbs hBw hgw hb64x hb64x hown6 hgrow6)
          clear hown6 hgrow6
          go_wp2
          go_roundw
          case rel => exact ⟨j + 1, by omega, by go_num, _, _, HST6.out, by simp; omega⟩
          case measure => simp [intOf]; omega
        | false =>
          go_wp2
          go_roundw
          case rel => exact ⟨j + 1, by omega, by go_num, _, _, HST8.out, by omega⟩
          case measure => simp [intOf]; omega
      · have hne : (y != x) = true := by simp; omega
        have hne2 : (x != y) = true := by simp; omega
        go_wp2_with (at_builtin; refine wpList_append_own _ rfl _ _ 25 rfl (bs + 1) 66 j0 _ 2 16 Try.underlying25 hij hy0 hy1 hy2 rfl (by decide) _ _ _ rfl (HST7.out.sub.alloc _) ⟨w5.heap.size, 0, none⟩ 1 1 [.int .i64 y, .int .i64 x] rfl rfl (two_cells _ _ _ _) (two_one _ _) (by unfold maxLen; omega) (by omega) (by have := HST7.out.lt; simp; omega) ?_)
        intro v6 w6 hown6 hgrow6 _
        obtain ⟨g6, cap6, rfl, _, _⟩ := own_shape hown6 (by intro e; have := congrArg List.length e; simp at this)
        obtain ⟨q1, q2⟩ := HST7.out.grown hgrow6
        have HST6 := Lib.hid (HST7.out.push HNL.out hgnbs hwbs hBw hgw hb64y hb64x hown6 hgrow6)
        clear hown6 hgrow6
        go_wp2
        go_roundw
        case rel => exact ⟨j + 1, by omega, by go_num, _, _, HST6.out, by simp; omega⟩
        case measure => simp [intOf]; omega
    · obtain rfl : j = m := by omega
      have HST4 := Lib.hid hst
      clear hst
      go_wp2_with fail
      refine (CB.out 30 (by omega) (by omega) _ HST4.out.hs.1).mono ?_; rintro e w4 ⟨c, rfl, hc0, hc1, hs4⟩
      have HST5 := Lib.hid (HST4.out.step hgw hwbs hs4)
      clear hs4 HST4
      obtain ⟨b0, b1, f1⟩ := HST5.out.cells
      have hc : c = 0 ∨ c = 1 ∨ c = 2 ∨ 3 ≤ c := by omega
      rcases hc with rfl | rfl | rfl | hc3
      · obtain ⟨A5, c5, rfl, _⟩ := own_slice HST5.out.sub
        clear b0 b1 f1
        obtain ⟨b0, b1, f1⟩ := HST5.out.cells
        have HPK : Hid (∀ W, W.heap = (w4.alloc (.cells #[.string { data := #[] }, .string { data := #[66] }, .string { data := #[97, 32, 98] }, .string { data := #[120, 49] }] 9)).heap → Below w4.heap.size w4 W → Calls Try.prog 70 #[.pointer (some ⟨g, 0, none⟩), .slice (some ⟨w4.heap.size, 0, none⟩) 4 4] W fun e w' => ∃ l, e = .returned (.string (bstr l)) ∧ l ∈ picks ∧ St B W0 v n g w w' bs (.slice (some ⟨gn, 0, none⟩) (1 + k) cap) P (.slice A5 Q.length c5) Q) := Lib.hid (fun W hW hbW => by
          have hst := HST5.out.over hBw hgw hwbs hbW
          have hl0 := World.ownsRow_lit (e := 9) (size := 1) w4 #[.string { data := #[] }, .string { data := #[66] }, .string { data := #[97, 32, 98] }, .string { data := #[120, 49] }] 4 (Nat.le_refl _) (by unfold maxLen; omega) rfl
          have hl1 : W.ownsRow w4.heap.size 9 1 (.slice (some ⟨w4.heap.size, 0, none⟩) 4 4) 4 (ssv picks) := by
            have h0 : (w4.alloc (.cells #[.string { data := #[] }, .string { data := #[66] }, .string { data := #[97, 32, 98] }, .string { data := #[120, 49] }] 9)).ownsRow w4.heap.size 9 1 (.slice (some ⟨w4.heap.size, 0, none⟩) 4 4) 4 (ssv picks) := by simpa [ssv, picks, bstr] using hl0
            exact own_at h0 (by rw [hW])
          refine (CP.out (ssv picks) (fun x hx => by obtain ⟨l, rfl, _⟩ := pick_of hx; exact ⟨_, rfl⟩) 4 (by omega) (by omega) _ w4.heap.size (by have := HST5.out.lt; omega) _ hst.hs.1 hl1).mono ?_
          rintro e w5 ⟨x, rfl, hx, hs5⟩
          obtain ⟨l, rfl, hl⟩ := pick_of hx
          exact ⟨l, rfl, hl, hst.step hgw hwbs hs5⟩)
        obtain ⟨nd, hnd⟩ : ∃ nd, nd = Value.string (bstr (P.getD 0 [])) := ⟨_, rfl⟩
        have HALL : Hid (∀ W, St B W0 v n g w W bs (.slice (some ⟨gn, 0, none⟩) (1 + k) cap) P (.slice A5 Q.length c5) Q → (W.cell? ⟨bs, 0, none⟩ = some (.slice (some ⟨gn, 0, none⟩) (1 + k) cap) ∧ W.cell? ⟨gn, 0, none⟩ = some (.string (bstr (P.getD 0 []))) ∧ W.frozen? ⟨gn, 0, none⟩ = false) ∧ St B W0 v n g w W bs (.slice (some ⟨gn, 0, none⟩) (1 + k) cap) P (.slice A5 Q.length c5) Q) := Lib.hid (fun W hW => hW.all HNL.out (by omega))
        clear hnd
        have hib : (0 : Int) < 1 + (k : Int) := by omega
        have hib2 : 0 < 1 + k := by omega
        have hbs4 : bs < w4.heap.size := HST5.out.lt
        have hbs5 : bs ≠ w4.heap.size := by omega
        have hgn4 : gn < w4.heap.size := by omega
        go_wp2
        go_region_with ((go_at_call 70
                         refine (HPK.out _ (by rfl) (by repeat (first | exact Below.refl _ _ | refine Below.drew ?_ | refine Below.alloc ?_ (by first | exact Nat.le_refl _ | simp) _))).mono ?_
                         rintro e w5 ⟨l, rfl, hl, hst6⟩
                         have HST6 := Lib.hid hst6
                         have HST9 := Lib.hid (HST6.out.name HNL.out hgnbs hwbs hBw hgw l)
                         obtain ⟨n0, n1⟩ := HST6.out.ncells HNL.out (by omega)
                         obtain ⟨nd, n0⟩ := n0
                         obtain ⟨m0, m1, m2⟩ := HST6.out.cells
                         obtain ⟨m3, m4, m5⟩ := HST9.out.cells
                         obtain ⟨r0, r1, s0, s1⟩ := HST9.out.rcells
                         have HLL := Lib.hid hl
                         clear hst6 hl))
        all_goals (
          go_wp2
          refine bodyPost_ret (v := .agg #[.slice (some ⟨gn, 0, none⟩) (1 + k) cap, .slice A5 Q.length c5]) (by simp [results, Try.results34, go_sem, r0, r1, s0, s1, m0, m1, m3, m4]) rfl ⟨_, _, P.set 0 l, _, rfl, (HST9.out.done hwbs hBw hgw (short_set HSH.out HLL.out) (by rw [List.length_set]; have := HNL.out; omega) (by rw [List.length_set]; have := HNL.out; omega)).1, (HST9.out.done hwbs hBw hgw (short_set HSH.out HLL.out) (by rw [List.length_set]; have := HNL.out; omega) (by rw [List.length_set]; have := HNL.out; omega)).2⟩)
      · go_wp2_with (at_builtin; refine wpList_append_own _ rfl _ _ 25 rfl (bs + 1) 66 j0 _ 2 16 Try.underlying25 hij hy0 hy1 hy2 rfl (by decide) _ _ _ rfl (HST5.out.sub.alloc _) ⟨w4.heap.size, 0, none⟩ 1 1 [.int .i64 _, .int .i64 _] rfl rfl (two_cells _ _ _ _) (two_one _ _) (by unfold maxLen; omega) (by omega) (by have := HST5.out.lt; simp; omega) ?_)
        intro v6 w6 hown6 hgrow6 _
        obtain ⟨g6, cap6, rfl, _, _⟩ := own_shape hown6 (by intro e; have := congrArg List.length e; simp at this)
        obtain ⟨q1, q2⟩ := HST5.out.grown hgrow6
        have HST6 := Lib.hid (HST5.out.push HNL.out hgnbs hwbs hBw hgw (by omega) (by omega) hown6 hgrow6)
        obtain ⟨m0, m1, m2⟩ := HST6.out.cells
        obtain ⟨r0, r1, s0, s1⟩ := HST6.out.rcells
        clear hown6 hgrow6
        go_wp2
        refine bodyPost_ret (v := .agg #[.slice (some ⟨gn, 0, none⟩) (1 + k) cap, .slice (some ⟨g6, 0, none⟩) (Q.length + 1) cap6]) (by simp [results, Try.results34, go_sem, r0, r1, s0, s1, m0, m1]) rfl ⟨_, _, P, _, rfl, (HST6.out.done hwbs hBw hgw HSH.out (by have := HNL.out; omega) (by have := HNL.out; omega)).1, (HST6.out.done hwbs hBw hgw HSH.out (by have := HNL.out; omega) (by have := HNL.out; omega)).2⟩
      · have HB8 : Hid (∀ W, St B W0 v n g w W bs (.slice (some ⟨gn, 0, none⟩) (1 + k) cap) P vb Q → Calls Try.prog 35 #[.pointer (some ⟨g, 0, none⟩), .int .i64 8] W fun e w' => ∃ x : Int, e = .returned (.int .i64 x) ∧ 0 ≤ x ∧ x < 8 ∧ St B W0 v n g w w' bs (.slice (some ⟨gn, 0, none⟩) (1 + k) cap) P vb Q) := Lib.hid (fun W hW => by
          refine (CB.out 8 (by omega) (by omega) _ hW.hs.1).mono ?_
          rintro e w5 ⟨x, rfl, hx0, hx1, hs5⟩
          exact ⟨x, rfl, hx0, hx1, hW.step hgw hwbs hs5⟩)
        go_wp2
        go_region_law (first
            | (refine step_append_lies _ (by rfl) _ _ _ (by rfl) (bs + 1) 66 j0 _ 2 16 Try.underlying25 hij hy0 hy1 hy2 rfl (by omega) _ _ _ (by rfl) (hst8.sub.alloc _) ⟨_, 0, none⟩ 1 1 [.int .i64 _, .int .i64 _] (by rfl) (by rfl) (two_cells _ _ _ _) (two_one _ _) (by omega) (by unfold maxLen; omega) (by omega) (by have := hst8.lt; simp; omega) _ rfl ?_
               intro g6 cap6 w6 hown6 hgrow6 hat6 hlt6
               obtain ⟨q1, q2⟩ := hst8.grown hgrow6
               have HST6 := Lib.hid (hst8.push HNL.out hgnbs hwbs hBw hgw (by first | (constructor <;> omega) | (simp only [IntKind.wrap_i64]; constructor <;> omega)) (by first | (constructor <;> omega) | (simp only [IntKind.wrap_i64]; constructor <;> omega)) hown6 hgrow6)
               obtain ⟨m0, m1, m2⟩ := HST6.out.cells
               obtain ⟨r0, r1, s0, s1⟩ := HST6.out.rcells)
            | (go_simp
               go_at_call 35
               refine (HB8.out _ ?_).mono ?_
               · first | assumption | (refine HST5.out.over hBw hgw hwbs ?_; repeat (first | exact Below.refl _ _ | refine Below.drew ?_))
               rintro e w5 ⟨x8, rfl, hx80, hx81, hst8⟩
               have hlt8 := hst8.lt
               have hne8 : bs ≠ w5.heap.size := by omega
               obtain ⟨b0', b1', f1'⟩ := hst8.cells))
        all_goals (
          go_wp2
          refine bodyPost_ret (v := .agg #[.slice (some ⟨gn, 0, none⟩) (1 + k) cap, .slice (some ⟨g6, 0, none⟩) (Q.length + 1) cap6]) (by simp [results, Try.results34, go_sem, r0, r1, s0, s1, m0, m1]) rfl ⟨_, _, P, _, rfl, (HST6.out.done hwbs hBw hgw HSH.out (by have := HNL.out; omega) (by have := HNL.out; omega)).1, (HST6.out.done hwbs hBw hgw HSH.out (by have := HNL.out; omega) (by have := HNL.out; omega)).2⟩)
      · obtain ⟨A5, c5, rfl, _⟩ := own_slice HST5.out.sub
        clear b0 b1 f1
        obtain ⟨b0, b1, f1⟩ := HST5.out.cells
        obtain ⟨r0, r1, s0, s1⟩ := HST5.out.rcells
        have e0 : (c == 0) = false := by simp; omega
        have e1 : (c == 1) = false := by simp; omega
        have e2 : (c == 2) = false := by simp; omega
        go_wp2
        refine bodyPost_ret (v := .agg #[.slice (some ⟨gn, 0, none⟩) (1 + k) cap, .slice A5 Q.length c5]) (by simp [results, Try.results34, go_sem, r0, r1, s0, s1]) rfl ⟨_, _, P, _, rfl, (HST5.out.done hwbs hBw hgw HSH.out (by have := HNL.out; omega) (by have := HNL.out; omega)).1, (HST5.out.done hwbs hBw hgw HSH.out (by have := HNL.out; omega) (by have := HNL.out; omega)).2⟩
end Go.Proofs.Yteaccmneblhoaaa.sortd
