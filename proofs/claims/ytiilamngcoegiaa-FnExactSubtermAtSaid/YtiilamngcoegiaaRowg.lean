/-
  ROWS OF TERMS THAT GROW, nil at first perhaps; an element's memory is known in an older world and apart from what is written.
-/
import Derived.Test.YtiilamngcoegiaaTermb
import Derived.Test.YtiilamngcoegiaaTermu
namespace Go.Proofs.Ytiilamngcoegiaa.rowg
open Go.ChangeShapes Go.WideShapes Go.ChangeAt Go.RowKit
open mem rowl trm trmv terml termb termt termu

section
variable {P : Program} {w : World}
/-- append to a row of one's own, nil or not, of one element or more -/
theorem step_append_any {ops : Array Oper} {o : Oper} {a : Act} {K : Act → World → Prop} {Q : Exit → Act → World → Prop} {E : Prop} (hgd : o.guard = none) (s x : Operand) (t : TypeId)
    (ho : o.op = .call { callee := .builtin .append, args := #[s, x], argTypes := #[t, t] })
    (base : Nat) (e : TypeId) (i : TypeInfo) (z : Value) (size bytes : Nat) (ht : P.underlying t = some (.slice e)) (hi : P.info? e = some i) (hz : i.zero = some z)
    (hsize : i.size = size) (hby : i.bytes = bytes) (hzs : z.cells.size = size) (hsz : 0 < size) (v : Value) (n : Nat) (xs : List Value) (hs : a.eval s = v) (hown : w.ownsRow base e size v n xs)
    (ad : Addr) (m c : Nat) (news : List Value) (hx : a.eval x = .slice (some ad) m c) (hm : 0 < m) (hl : news.length = m * size) (hnews : ∀ j u, news[j]? = some u → w.cell? (ad.add j) = some u) (h1 : ∀ u ∈ news, u.oneCell' = true)
    (h63 : n + m ≤ maxLen) (hbytes : (n + m) * bytes ≤ 140737488355328) (hbase : base ≤ w.heap.size)
    (h : ∀ g' cap' w', w'.ownsRow base e size (.slice (some ⟨g', 0, none⟩) (n + m) cap') (n + m) (xs ++ news) → w.grownBy w' v.ownBlock → (v.ownBlock = some g' ∨ g' = w.heap.size) → g' < w'.heap.size → K (a.put o.dst (.slice (some ⟨g', 0, none⟩) (n + m) cap')) w') :
    if Region.wanted o (yielded ops a.tmps) = true then Oper.wp P o a w K Q else E := by
  have hw : Region.wanted o (yielded ops a.tmps) = true := by simp [Region.wanted, hgd]
  rw [if_pos hw]
  obtain ⟨v', w', hr, h2, h3, h4, h5⟩ := run_append_own_at (P := P) (w := w) base t o.type e i z size bytes ht hi hz hsize hby hzs hsz v n xs hown ad m c news hl hnews h1 h63 hbytes hbase
  have hne : v' ≠ .slice none 0 0 := fun e => by have := (h4.1 e).2; omega
  rcases h2.2 with ⟨h', _⟩ | ⟨g', cap', cur, h', hb, hg, hnc, hcm, hcs, htake⟩
  · exact absurd h' hne
  subst h'
  unfold Oper.wp execOp
  simp only [ho, resolve, invoke, builtin, Sem.run_bind, Sem.run_pure, Result.andThen_ok, List.map_toArray, List.map_cons, List.map_nil, hs, hx, hr]
  refine h _ _ _ h2 h3 ?_ (Array.getElem?_eq_some_iff.1 hg).1
  rcases h5 with h5 | h5
  · exact .inl (by rw [← h5]; rfl)
  · exact .inr (by simpa [Value.ownBlock] using h5)
end
/-- nothing at or above lo has changed, the blocks of X aside -/
def KX (lo : Nat) (X : List Nat) (w w' : World) : Prop := w.heap.size ≤ w'.heap.size ∧ ∀ k, lo ≤ k → k < w.heap.size → k ∉ X → w'.heap[k]? = w.heap[k]?
theorem KX.trans {lo : Nat} {X : List Nat} {a b c : World} (h : KX lo X a b) (k : KX lo X b c) : KX lo X a c := ⟨Nat.le_trans h.1 k.1, fun i h1 h2 h3 => (k.2 i h1 (Nat.lt_of_lt_of_le h2 h.1) h3).trans (h.2 i h1 h2 h3)⟩
theorem KX.below {lo : Nat} {X : List Nat} {w w' : World} (hb : Below w.heap.size w w') : KX lo X w w' := ⟨hb.size, fun k _ hk _ => hb.block k hk⟩
theorem KX.set {lo g : Nat} {X : List Nat} {w : World} (hg : g ∈ X) (j : Nat) (u : Value) : KX lo X w (w.setCell ⟨g, j, none⟩ u) := ⟨by simp [World.setCell], fun k _ _ h3 => Below.heap_setCell w ⟨g, j, none⟩ u k (fun e => h3 (by rw [e]; exact hg))⟩
/-- an element whose memory lies apart from the blocks of X -/
def Child (P : TermM → Prop) (d lo : Nat) (X : List Nat) (w : World) (va : Value) (t : TermM) : Prop := P t ∧ ∃ (lo' : Nat) (wc : World), lo ≤ lo' ∧ HasTs d lo' wc va t.args ∧ Kept lo' wc w ∧ ∀ x ∈ X, x < lo' ∨ wc.heap.size ≤ x
theorem Child.kx {P : TermM → Prop} {d lo : Nat} {X : List Nat} {w w' : World} {va : Value} {t : TermM} (h : Child P d lo X w va t) (hk : KX lo X w w') : Child P d lo X w' va t := by
  obtain ⟨hr, lo', wc, h1, h2, h3, h4⟩ := h
  refine ⟨hr, lo', wc, h1, h2, ⟨Nat.le_trans h3.1 hk.1, fun k hk1 hk2 => ?_⟩, h4⟩
  have h5 := h3.1
  rw [hk.2 k (by omega) (by omega) (fun hm => by have := h4 k hm; omega)]
  exact h3.2 k hk1 hk2
theorem Child.new {P : TermM → Prop} {d lo lo' : Nat} {X : List Nat} {w : World} {va : Value} {t : TermM} (hr : P t) (h : HasTs d lo' w va t.args) (hl : lo ≤ lo') (hX : ∀ x ∈ X, x < lo' ∨ w.heap.size ≤ x) : Child P d lo X w va t := ⟨hr, lo', w, hl, h, Kept.refl _ _, hX⟩
theorem Child.has {P : TermM → Prop} {d lo : Nat} {X : List Nat} {w : World} {va : Value} {t : TermM} (h : Child P d lo X w va t) : HasTs d lo w va t.args := by
  obtain ⟨hr, lo', wc, h1, h2, h3, h4⟩ := h
  exact HasR.mono (RT_steady d) (HasR.kept (RT_steady d) h2 h3) h1
theorem own_kept {w w' : World} {base n size : Nat} {e : TypeId} {v : Value} {xs : List Value} (h : w.ownsRow base e size v n xs) (hb : ∀ g, v.ownBlock = some g → w'.heap[g]? = w.heap[g]?) : w'.ownsRow base e size v n xs := by
  refine ⟨h.1, ?_⟩
  rcases h.2 with h4 | ⟨g, cap, cur, rfl, hg, hh, r⟩
  · exact .inl h4
  · exact .inr ⟨g, cap, cur, rfl, hg, by rw [hb g rfl]; exact hh, r⟩
/-- a row of such elements -/
def CKids (P : TermM → Prop) (d lo : Nat) (X : List Nat) (w : World) (v : Value) (m : Nat) (L : List TermM) : Prop := m = L.length ∧ (∀ g, v.ownBlock = some g → g ∈ X) ∧ ∃ xs, w.ownsRow lo 40 4 v m xs ∧ ∀ j, j < m → ∃ va, Cells4 xs j (L.getD j default) va ∧ Child P d lo X w va (L.getD j default)
theorem CKids.kx {P : TermM → Prop} {d lo : Nat} {X : List Nat} {w w' : World} {v : Value} {m : Nat} {L : List TermM} (h : CKids P d lo X w v m L) (hk : KX lo X w w') (hg : ∀ g, v.ownBlock = some g → w'.heap[g]? = w.heap[g]?) : CKids P d lo X w' v m L := by
  obtain ⟨h1, h0, xs, h2, h3⟩ := h
  refine ⟨h1, h0, xs, own_kept h2 hg, fun j hj => ?_⟩
  obtain ⟨va, h4, h5⟩ := h3 j hj
  exact ⟨va, h4, h5.kx hk⟩
theorem CKids.nil {P : TermM → Prop} {d lo : Nat} {X : List Nat} {w : World} : CKids P d lo X w (.slice none 0 0) 0 [] := ⟨rfl, fun g hg => by simp [Value.ownBlock] at hg, [], ⟨rfl, .inl ⟨rfl, rfl⟩⟩, fun j hj => by omega⟩
/-- an element more: what the append leaves -/
theorem CKids.snoc {P : TermM → Prop} {d lo : Nat} {X X' : List Nat} {w w' : World} {v v' : Value} {m : Nat} {L : List TermM} {va : Value} {t : TermM} (h : CKids P d lo X w v m L) (hc : Child P d lo X w va t) (hX' : ∀ x ∈ X', x ∈ X ∨ w.heap.size ≤ x)
    (hg : w.grownBy w' v.ownBlock) (hv' : ∀ g, v'.ownBlock = some g → g ∈ X') (ho : ∀ xs, w.ownsRow lo 40 4 v m xs → w'.ownsRow lo 40 4 v' (m + 1) (xs ++ [.int .i64 t.op, .string (bstr t.name), .int .i64 t.sort, va])) : CKids P d lo X' w' v' (m + 1) (L ++ [t]) := by
  obtain ⟨h1, h0, xs, h2, h3⟩ := h
  have hl := h2.1
  have key : ∀ {vb : Value} {u : TermM}, Child P d lo X w vb u → Child P d lo X' w' vb u := fun hc => by
    obtain ⟨hr, lo2, wc2, b1, b2, b3, b4⟩ := hc
    exact ⟨hr, lo2, wc2, b1, b2, ⟨Nat.le_trans b3.1 hg.size, fun k c1 c2 => by
      rw [hg.block k (Nat.lt_of_lt_of_le c2 b3.1) (by intro e; have := b4 _ (h0 k e.symm); omega)]
      exact b3.2 k c1 c2⟩, fun x hx => by
      rcases hX' x hx with h | h
      · exact b4 x h
      · exact .inr (Nat.le_trans b3.1 h)⟩
  refine ⟨by rw [List.length_append, ← h1]; rfl, hv', _, ho xs h2, fun j hj => ?_⟩
  by_cases hjm : j < m
  · obtain ⟨vb, ⟨e0, e1, e2, e3⟩, h5⟩ := h3 j hjm
    have e : (L ++ [t]).getD j default = L.getD j default := by simp only [List.getD]; rw [List.getElem?_append_left (by omega)]
    rw [e]
    exact ⟨vb, ⟨by rw [List.getElem?_append_left (by omega)]; exact e0, by rw [List.getElem?_append_left (by omega)]; exact e1, by rw [List.getElem?_append_left (by omega)]; exact e2, by rw [List.getElem?_append_left (by omega)]; exact e3⟩, key h5⟩
  · obtain rfl : j = m := by omega
    have e : (L ++ [t]).getD j default = t := by simp only [List.getD]; rw [List.getElem?_append_right (by omega), h1, Nat.sub_self]; rfl
    rw [e]
    refine ⟨va, ⟨?_, ?_, ?_, ?_⟩, key hc⟩
    · rw [List.getElem?_append_right (by omega), hl, Nat.sub_self]; rfl
    · rw [List.getElem?_append_right (by omega), hl, Nat.add_sub_cancel_left]; rfl
    · rw [List.getElem?_append_right (by omega), hl, Nat.add_sub_cancel_left]; rfl
    · rw [List.getElem?_append_right (by omega), hl, Nat.add_sub_cancel_left]; rfl
theorem CKids.has {d lo : Nat} {X : List Nat} {w : World} {v : Value} {m : Nat} {L : List TermM} (h : CKids Bnd d lo X w v m L) : HasTs (d + 1) lo w v L := by
  obtain ⟨h1, h0, xs, h2, h3⟩ := h
  refine HasR.of_own h2 h1.symm (fun j hj => ?_)
  obtain ⟨va, ⟨e0, e1, e2, e3⟩, h5⟩ := h3 j hj
  refine ⟨[.int .i64 (L.getD j default).op, .string (bstr (L.getD j default).name), .int .i64 (L.getD j default).sort, va], fun i hi => ?_, va, rfl, h5.has, h5.1.1, h5.1.2.1, h5.1.2.2⟩
  match i, hi with
  | 0, _ => exact e0
  | 1, _ => exact e1
  | 2, _ => exact e2
  | 3, _ => exact e3
/-- a term in a block of four cells -/
def Bx (w : World) (x : Nat) (a b c d : Value) : Prop := w.heap[x]? = some (.cells #[a, b, c, d] 40 (0, 0))
theorem Bx.cells {w : World} {x : Nat} {a b c d : Value} (h : Bx w x a b c d) : (w.cell? ⟨x, 0, none⟩ = some a ∧ w.cell? ⟨x, 1, none⟩ = some b ∧ w.cell? ⟨x, 2, none⟩ = some c ∧ w.cell? ⟨x, 3, none⟩ = some d) ∧ w.frozen? ⟨x, 0, none⟩ = false ∧ w.frozen? ⟨x, 1, none⟩ = false ∧ w.frozen? ⟨x, 2, none⟩ = false ∧ w.frozen? ⟨x, 3, none⟩ = false :=
  ⟨⟨cell_of_row w x 0 _ _ _ h, cell_of_row w x 1 _ _ _ h, cell_of_row w x 2 _ _ _ h, cell_of_row w x 3 _ _ _ h⟩, frozen_of_row w x 0 _ _ h, frozen_of_row w x 1 _ _ h, frozen_of_row w x 2 _ _ h, frozen_of_row w x 3 _ _ h⟩
theorem Bx.lt {w : World} {x : Nat} {a b c d : Value} (h : Bx w x a b c d) : x < w.heap.size := (Array.getElem?_eq_some_iff.1 h).1
theorem Bx.set {w : World} {x : Nat} {a b c d : Value} (h : Bx w x a b c d) (u : Value) : Bx (w.setCell ⟨x, 3, none⟩ u) x a b c u := by
  have := heap_setCell_same w x 3 #[a, b, c, d] 40 u h
  simpa [Bx] using this
theorem Bx.far {w : World} {x y i : Nat} {a b c d : Value} (h : Bx w x a b c d) (hne : x ≠ y) (u : Value) : Bx (w.setCell ⟨y, i, none⟩ u) x a b c d := (Below.heap_setCell w ⟨y, i, none⟩ u x hne).trans h
theorem Bx.grown {w w' : World} {x : Nat} {r : Option Nat} {a b c d : Value} (h : Bx w x a b c d) (hg : w.grownBy w' r) (hne : some x ≠ r) : Bx w' x a b c d := (hg.block x h.lt hne).trans h
theorem Bx.below {w w' : World} {x : Nat} {a b c d : Value} (h : Bx w x a b c d) (hb : Below w.heap.size w w') : Bx w' x a b c d := (hb.block x h.lt).trans h
theorem own_uniq {w : World} {base base' n size : Nat} {e e' : TypeId} {v : Value} {xs ys : List Value} (h : w.ownsRow base e size v n xs) (h' : w.ownsRow base' e' size v n ys) : xs = ys := by
  rcases h.2 with ⟨_, h0⟩ | ⟨g, cap, cur, rfl, _, _⟩
  · have a := h.1
    have b := h'.1
    rw [h0, Nat.zero_mul] at a b
    rw [List.eq_nil_of_length_eq_zero a, List.eq_nil_of_length_eq_zero b]
  · apply List.ext_getElem?
    intro j
    by_cases hj : j < n * size
    · have a := h.cellAt j hj
      have b := h'.cellAt j hj
      rw [← a, ← b]
    · rw [List.getElem?_eq_none (by have := h.1; omega), List.getElem?_eq_none (by have := h'.1; omega)]
theorem own_blk {w : World} {base n size : Nat} {e : TypeId} {v : Value} {xs : List Value} (h : w.ownsRow base e size v n xs) : ∀ g, v.ownBlock = some g → base ≤ g ∧ g < w.heap.size := fun g hg => by
  rcases h.2 with ⟨e, _⟩ | ⟨g', cap', cur, e, h1, h2, _⟩
  · rw [e] at hg; simp [Value.ownBlock] at hg
  · rw [e] at hg; simp [Value.ownBlock] at hg; subst hg; exact ⟨h1, (Array.getElem?_eq_some_iff.1 h2).1⟩
theorem own_grown_far {w w' : World} {base n size : Nat} {e : TypeId} {v : Value} {xs : List Value} {r : Option Nat} (h : w.ownsRow base e size v n xs) (hg : w.grownBy w' r) (hn : ∀ g, v.ownBlock = some g → r ≠ some g) : w'.ownsRow base e size v n xs := by
  refine own_kept h (fun g hv => ?_)
  rcases h.2 with ⟨rfl, _⟩ | ⟨g', cap, cur, rfl, _, hh, _⟩
  · simp [Value.ownBlock] at hv
  · simp [Value.ownBlock] at hv
    subst hv
    exact hg.block _ (Array.getElem?_eq_some_iff.1 hh).1 (fun e => hn g' rfl e.symm)
theorem cells4_at (w : World) (a b c d : Value) (t : TypeId) : ∀ (j : Nat) (x : Value), [a, b, c, d][j]? = some x → (w.alloc (.cells #[a, b, c, d] t)).cell? ((⟨w.heap.size, 0, none⟩ : Addr).add j) = some x := by
  intro j x hx
  rw [Addr.add_lit, Nat.zero_add]
  match j, hx with
  | 0, hx => simpa using hx
  | 1, hx => simpa using hx
  | 2, hx => simpa using hx
  | 3, hx => simpa using hx
theorem cells4_one {a b c d : Value} (h : a.oneCell' = true) (h1 : b.oneCell' = true) (h2 : c.oneCell' = true) (h3 : d.oneCell' = true) : ∀ x ∈ [a, b, c, d], x.oneCell' = true := by
  intro x hx
  simp only [List.mem_cons, List.not_mem_nil, or_false] at hx
  rcases hx with rfl | rfl | rfl | rfl <;> assumption
/-- a copy of a term under way: what came in at b, the result's cells at b + 1, the copy's at b + 2 -/
structure CS (w : World) (op : Int) (nm : List UInt8) (so : Int) (A : Option Addr) (m c : Nat) (L : List TermM) (d j : Nat) (Ar : Option Addr) (cr : Nat) (wr : World) : Prop where
  below : Below w.heap.size w wr
  ib : Bx wr w.heap.size (.int .i64 op) (.string (bstr nm)) (.int .i64 so) (.slice A m c)
  rb : Bx wr (w.heap.size + 1) (.int .i64 0) (.string { data := #[] }) (.int .i64 0) (.slice none 0 0)
  ob : Bx wr (w.heap.size + 1 + 1) (.int .i64 op) (.string (bstr nm)) (.int .i64 so) (.slice Ar j cr)
  kids : CKids Bnd d (w.heap.size + 3) ((Value.slice Ar j cr).ownBlock.toList ++ [w.heap.size + 1 + 1]) wr (.slice Ar j cr) j (L.take j)
theorem CS.next {w : World} {op : Int} {nm : List UInt8} {so : Int} {A : Option Addr} {m c : Nat} {L : List TermM} {d j : Nat} {Ar : Option Addr} {cr : Nat} {wr w3 w5 : World} {va : Value} {xs : List Value} {g4 cap4 : Nat} {u : TermM}
    (h : CS w op nm so A m c L d j Ar cr wr) (hu : u = L.getD j default) (hj : j < L.length) (hb3 : Below wr.heap.size wr w3) (hh : HasTs d wr.heap.size w3 va u.args) (hB : Bnd u) (ho : wr.ownsRow (w.heap.size + 3) 40 4 (.slice Ar j cr) j xs)
    (hown : w5.ownsRow (w.heap.size + 3) 40 4 (.slice (some ⟨g4, 0, none⟩) (j + 1) cap4) (j + 1) (xs ++ [.int .i64 u.op, .string (bstr u.name), .int .i64 u.sort, va]))
    (hgr : (w3.alloc (.cells #[.int .i64 u.op, .string (bstr u.name), .int .i64 u.sort, va] 40)).grownBy w5 (Value.slice Ar j cr).ownBlock) (hg4 : (Value.slice Ar j cr).ownBlock = some g4 ∨ g4 = (w3.alloc (.cells #[.int .i64 u.op, .string (bstr u.name), .int .i64 u.sort, va] 40)).heap.size) :
    CS w op nm so A m c L d (j + 1) (some ⟨g4, 0, none⟩) cap4 (w5.setCell ⟨w.heap.size + 1 + 1, 3, none⟩ (.slice (some ⟨g4, 0, none⟩) (j + 1) cap4)) ∧ Bx w5 (w.heap.size + 1 + 1) (.int .i64 op) (.string (bstr nm)) (.int .i64 so) (.slice Ar j cr) := by
  subst hu
  have hal : Below w3.heap.size w3 (w3.alloc (.cells #[.int .i64 (L.getD j default).op, .string (bstr (L.getD j default).name), .int .i64 (L.getD j default).sort, va] 40)) := (Below.refl _ _).alloc (Nat.le_refl _) _
  have hza : (w3.alloc (.cells #[.int .i64 (L.getD j default).op, .string (bstr (L.getD j default).name), .int .i64 (L.getD j default).sort, va] 40)).heap.size = w3.heap.size + 1 := by simp
  have hz3 := hb3.size
  have hob := h.ob.lt
  have hlo : ∀ g, (Value.slice Ar j cr).ownBlock = some g → w.heap.size + 3 ≤ g ∧ g < wr.heap.size := fun g hg => by
    rcases ho.2 with ⟨e, _⟩ | ⟨g', cap', cur, e, h1, h2, _⟩
    · rw [e] at hg; simp [Value.ownBlock] at hg
    · rw [e] at hg; simp [Value.ownBlock] at hg; subst hg; exact ⟨h1, (Array.getElem?_eq_some_iff.1 h2).1⟩
  have hg5 : w.heap.size + 3 ≤ g4 := by
    rcases hg4 with e | e
    · exact (hlo g4 e).1
    · omega
  have hfar : ∀ x, x < w.heap.size + 3 → some x ≠ (Value.slice Ar j cr).ownBlock := fun x hx e => by have := (hlo x e.symm).1; omega
  generalize hW4 : w3.alloc (.cells #[.int .i64 (L.getD j default).op, .string (bstr (L.getD j default).name), .int .i64 (L.getD j default).sort, va] 40) = w4 at hal hza hgr hg4
  have hb4 := hb3.trans (hal.mono hz3)
  have hbx := fun {x : Nat} {a b c d : Value} (hx : Bx wr x a b c d) (hl : x < w.heap.size + 3) => (hx.below hb4).grown hgr (hfar x hl)
  have hob5 := hbx h.ob (by omega)
  refine ⟨⟨?_, (hbx h.ib (by omega)).far (by omega) _, (hbx h.rb (by omega)).far (by omega) _, hob5.set _, ?_⟩, hob5⟩
  · exact ((h.below.trans (hb4.mono h.below.size)).grown hgr (by have := h.below.size; have := hb4.size; omega) (fun k hk => by have := (hlo k hk).1; omega)).setCell (by show w.heap.size ≤ w.heap.size + 1 + 1; omega) _
  · have hk4 : CKids Bnd d (w.heap.size + 3) ((Value.slice Ar j cr).ownBlock.toList ++ [w.heap.size + 1 + 1]) w4 (.slice Ar j cr) j (L.take j) := h.kids.kx (KX.below hb4) (fun g hg => hb4.block g (hlo g hg).2)
    have hc : Child Bnd d (w.heap.size + 3) ((Value.slice Ar j cr).ownBlock.toList ++ [w.heap.size + 1 + 1]) w3 va (L.getD j default) := Child.new hB hh (by omega) (fun x hx => by
      rcases List.mem_append.1 hx with hx | hx
      · left; exact (hlo x (by simpa using hx)).2
      · simp at hx; left; omega)
    have hc4 := hc.kx (KX.below (lo := w.heap.size + 3) hal)
    have ho4 := own_below ho hb4
    have hk5 : CKids Bnd d (w.heap.size + 3) ((Value.slice (some ⟨g4, 0, none⟩) (j + 1) cap4).ownBlock.toList ++ [w.heap.size + 1 + 1]) w5 (.slice (some ⟨g4, 0, none⟩) (j + 1) cap4) (j + 1) (L.take j ++ [L.getD j default]) := hk4.snoc hc4 (fun x hx => by
      rcases List.mem_append.1 hx with hx | hx
      · simp [Value.ownBlock] at hx
        subst hx
        rcases hg4 with e | e
        · exact .inl (List.mem_append.2 (.inl (by simp [e])))
        · exact .inr (by omega)
      · exact .inl (List.mem_append.2 (.inr hx))) hgr (fun g hg => List.mem_append.2 (.inl (by simp [hg]))) (fun ys hy => by rw [own_uniq hy ho4]; exact hown)
    rw [List.take_succ_eq_append_getElem hj, ← getD_at hj]
    exact hk5.kx (KX.set (by simp) _ _) (fun g hg => Below.heap_setCell w5 ⟨w.heap.size + 1 + 1, 3, none⟩ _ g (by simp [Value.ownBlock] at hg; show g ≠ w.heap.size + 1 + 1; omega))
theorem ck_next {B : Nat} {L : List TermM} {d j : Nat} {Ar : Option Addr} {cr : Nat} {wr w3 w5 : World} {va : Value} {xs : List Value} {g4 cap4 : Nat} {u : TermM} (hu : u = L.getD j default) (hj : j < L.length)
    (h : CKids Bnd d B (Value.slice Ar j cr).ownBlock.toList wr (.slice Ar j cr) j (L.take j)) (hBw : B ≤ wr.heap.size) (hb3 : Below wr.heap.size wr w3) (hh : HasTs d wr.heap.size w3 va u.args) (hB : Bnd u) (ho : wr.ownsRow B 40 4 (.slice Ar j cr) j xs)
    (hown : w5.ownsRow B 40 4 (.slice (some ⟨g4, 0, none⟩) (j + 1) cap4) (j + 1) (xs ++ [.int .i64 u.op, .string (bstr u.name), .int .i64 u.sort, va]))
    (hgr : (w3.alloc (.cells #[.int .i64 u.op, .string (bstr u.name), .int .i64 u.sort, va] 40)).grownBy w5 (Value.slice Ar j cr).ownBlock) (hg4 : (Value.slice Ar j cr).ownBlock = some g4 ∨ g4 = (w3.alloc (.cells #[.int .i64 u.op, .string (bstr u.name), .int .i64 u.sort, va] 40)).heap.size) :
    CKids Bnd d B (Value.slice (some ⟨g4, 0, none⟩) (j + 1) cap4).ownBlock.toList w5 (.slice (some ⟨g4, 0, none⟩) (j + 1) cap4) (j + 1) (L.take (j + 1)) ∧ Below B wr w5 := by
  subst hu
  have hal : Below w3.heap.size w3 (w3.alloc (.cells #[.int .i64 (L.getD j default).op, .string (bstr (L.getD j default).name), .int .i64 (L.getD j default).sort, va] 40)) := (Below.refl _ _).alloc (Nat.le_refl _) _
  have hza : (w3.alloc (.cells #[.int .i64 (L.getD j default).op, .string (bstr (L.getD j default).name), .int .i64 (L.getD j default).sort, va] 40)).heap.size = w3.heap.size + 1 := by simp
  have hz3 := hb3.size
  have hlo := own_blk ho
  generalize hW4 : w3.alloc (.cells #[.int .i64 (L.getD j default).op, .string (bstr (L.getD j default).name), .int .i64 (L.getD j default).sort, va] 40) = w4 at hal hza hgr hg4
  have hb4 := hb3.trans (hal.mono hz3)
  have hk4 := h.kx (KX.below hb4) (fun g hg => hb4.block g (hlo g hg).2)
  have hc : Child Bnd d B (Value.slice Ar j cr).ownBlock.toList w3 va (L.getD j default) := Child.new hB hh hBw (fun x hx => by left; exact (hlo x (by simpa using hx)).2)
  have hc4 := hc.kx (KX.below (lo := B) hal)
  have ho4 := own_below ho hb4
  refine ⟨?_, (hb4.mono hBw).grown hgr (by have := hb4.size; omega) (fun k hk => (hlo k hk).1)⟩
  rw [List.take_succ_eq_append_getElem hj, ← getD_at hj]
  exact hk4.snoc hc4 (fun x hx => by
    simp [Value.ownBlock] at hx
    subst hx
    rcases hg4 with e | e
    · exact .inl (by simp [e])
    · exact .inr (by omega)) hgr (fun g hg => by simp [hg]) (fun ys hy => by rw [own_uniq hy ho4]; exact hown)
end Go.Proofs.Ytiilamngcoegiaa.rowg
