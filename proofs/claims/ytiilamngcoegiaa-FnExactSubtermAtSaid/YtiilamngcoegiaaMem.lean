/-
  SMALL LAWS ON MEMORY AND STRINGS, over any program.
-/
import Derived.Test.YtiilamngcoegiaaRows
import Derived.WalkKit
import Derived.WalkLawsBesides
import Derived.WalkSpells
import Derived.ProofKit
import Derived.Lib.Hide
namespace Go.Proofs.Ytiilamngcoegiaa.mem
open Go.RowKit

theorem ret_int {k : IntKind} {a b : Int} (h : a = b) : Ending.returned (.int k a) = .returned (.int k b) := by rw [h]
theorem ret_bool {a b : Bool} (h : a = b) : Ending.returned (.bool a) = .returned (.bool b) := by rw [h]
theorem ret_str {a b : ByteArray} (h : a = b) : Ending.returned (.string a) = .returned (.string b) := by rw [h]

/-- a string of these bytes -/
def bstr (l : List UInt8) : ByteArray := ⟨l.toArray⟩
/-- the cells of a list of bytes -/
def u8s (l : List UInt8) : List Value := l.map fun b => .int .u8 b.toNat

theorem bstr_size (l : List UInt8) : (bstr l).size = l.length := by simp [bstr, ByteArray.size]
theorem bstr_toList (l : List UInt8) : (bstr l).data.toList = l := by simp [bstr]
theorem bstr_data (s : ByteArray) : bstr s.data.toList = s := by cases s; simp [bstr]
theorem bstr_inj {a b : List UInt8} (h : bstr a = bstr b) : a = b := by simpa [bstr] using h
theorem bstr_append (a b : List UInt8) : bstr a ++ bstr b = bstr (a ++ b) := by
  apply ByteArray.ext
  simp [bstr]

theorem fold_push (l : List UInt8) : ∀ s : ByteArray, (l.map fun b => (b.toNat : Int)).foldl (fun r n => r.push (UInt8.ofNat n.toNat)) s = s ++ bstr l := by
  induction l with
  | nil => intro s; apply ByteArray.ext; simp [bstr]
  | cons b l ih =>
    intro s
    simp only [List.map_cons, List.foldl_cons]
    rw [ih]
    apply ByteArray.ext
    simp [bstr]

theorem run_str {P : Program} {w : World} {src dst e : TypeId} (hs : P.underlying src = some (.slice e)) (he : P.underlying e = some (.int .u8)) (hd : P.underlying dst = some .string)
    (a : Addr) (l : List UInt8) {n cap : Nat} (hl : l.length = n) (h : ∀ j u, (u8s l)[j]? = some u → w.cell? (a.add j) = some u) :
    (convert src dst (.slice (some a) n cap)).run P w = .ok (.string (bstr l)) w := by
  rw [run_convert_bytes_string w src dst e (some a) n cap hs he hd]
  have hlen : (u8s l).length = n := by simp [u8s, hl]
  have hload := run_loadCells_list (P := P) (w := w) a (u8s l) h
  rw [hlen] at hload
  rw [run_bytesToString w a n cap (l.map fun b => (b.toNat : Int)) (by rw [hload]; simp [u8s])]
  rw [fold_push]
  congr 2

theorem run_str_nil {P : Program} {w : World} {src dst e : TypeId} (hs : P.underlying src = some (.slice e)) (he : P.underlying e = some (.int .u8)) (hd : P.underlying dst = some .string) {cap : Nat} :
    (convert src dst (.slice none 0 cap)).run P w = .ok (.string (bstr [])) w := by
  rw [run_convert_bytes_string w src dst e none 0 cap hs he hd]
  rfl

/-- an owned row of bytes as a string -/
theorem run_str_own {P : Program} {w : World} {src dst e t : TypeId} (hs : P.underlying src = some (.slice e)) (he : P.underlying e = some (.int .u8)) (hd : P.underlying dst = some .string)
    {base g n cap : Nat} {l : List UInt8} (hown : w.ownsRow base t 1 (.slice (some ⟨g, 0, none⟩) n cap) n (u8s l)) :
    (convert src dst (.slice (some ⟨g, 0, none⟩) n cap)).run P w = .ok (.string (bstr l)) w := by
  have hl : l.length = n := by have := hown.1; simpa [u8s] using this
  refine run_str hs he hd _ l hl fun j u hu => ?_
  have hj : j < n := by have := (List.getElem?_eq_some_iff.1 hu).1; simpa [u8s, hl] using this
  rw [← hu]
  have := hown.cellAt j (by omega)
  rw [Addr.add_lit, Nat.zero_add]
  rw [this]
theorem setCell_own {w : World} {base g n cap size : Nat} {e : TypeId} {xs : List Value} (h : w.ownsRow base e size (.slice (some ⟨g, 0, none⟩) n cap) n xs) (j : Nat) (u : Value) :
    (w.setCell ⟨g, j, none⟩ u).ownsRow base e size (.slice (some ⟨g, 0, none⟩) n cap) n (xs.set j u) := (h.stored j u).1
theorem bstr_one (b : UInt8) : bstr [b] = { data := #[b] } := rfl
theorem bstr_cons (b : UInt8) (l : List UInt8) : ({ data := #[b] } : ByteArray) ++ bstr l = bstr (b :: l) := by
  rw [← bstr_one, bstr_append]; rfl
/-- string([]byte{b}), b just laid in a block of its own -/
theorem run_str_one {P : Program} (w : World) {src dst e t : TypeId} (hs : P.underlying src = some (.slice e)) (he : P.underlying e = some (.int .u8)) (hd : P.underlying dst = some .string)
    (c : Int) (b : UInt8) (hc : c = (b.toNat : Int)) :
    (convert src dst (.slice (some ⟨w.heap.size, 0, none⟩) 1 1)).run P (w.alloc (.cells #[.int .u8 c] t)) = .ok (.string (bstr [b])) (w.alloc (.cells #[.int .u8 c] t)) := by
  subst hc
  refine run_str hs he hd _ [b] rfl fun j u hu => ?_
  match j, hu with
  | 0, hu =>
    simp [u8s] at hu
    subst hu
    simp [Addr.add]
theorem run_index_bstr {P : Program} (w : World) {t : TypeId} {k : IntKind} (h : P.underlying t = some .string) {l : List UInt8} {i : Nat} (hi : i < l.length) :
    (Instr.index t (.string (bstr l)) (.int k (i : Int))).run P w = .ok (.int .u8 ((l.getD i 0).toNat : Int)) w := by
  rw [run_index_string w t _ k _ h]
  have h1 : i < (bstr l).size := by rw [bstr_size]; exact hi
  simp [h1, hi]
  rfl
theorem bstr_extract (l : List UInt8) (a b : Nat) : (bstr l).extract a b = bstr ((l.take b).drop a) := by
  apply ByteArray.ext
  simp [bstr, List.drop_take]
theorem bstr_eq {a b : List UInt8} : ((bstr a).toList == (bstr b).toList) = decide (a = b) := by
  have h : ∀ l, (bstr l).toList = l := fun l => by rw [ByteArray.toList_eq]; exact bstr_toList l
  rw [h, h, Bool.eq_iff_iff]; simp
/-- one cell just laid in a block of its own: what an append of one element asks -/
theorem one_cell (w : World) (u : Value) (t : TypeId) : ∀ (j : Nat) (x : Value), [u][j]? = some x → (w.alloc (.cells #[u] t)).cell? ((⟨w.heap.size, 0, none⟩ : Addr).add j) = some x := by
  intro j x hj
  match j, hj with
  | 0, hj => simp at hj; subst hj; simp [Addr.add]
theorem one_one (u : Value) (h : u.oneCell' = true) : ∀ x ∈ [u], x.oneCell' = true := by
  intro x hx; simp at hx; subst hx; exact h
theorem made_u8 (n : Nat) : (madeCells #[Value.int .u8 0] n).toList = u8s (List.replicate n 0) := by
  simp [u8s, madeCells, Nat.mod_one, List.map_const']

/-- v is a slice of one-cell elements that reads as xs -/
def Has (w : World) (v : Value) (xs : List Value) : Prop :=
  ∃ A c, v = .slice A xs.length c ∧ xs.length ≤ c ∧ c ≤ maxLen ∧ ∀ j u, xs[j]? = some u → ∃ g o, A = some ⟨g, o, none⟩ ∧ g < w.heap.size ∧ w.cell? ⟨g, o + j, none⟩ = some u
theorem Has.below {w w' : World} {v : Value} {xs : List Value} (h : Has w v xs) {B : Nat} (hB : w.heap.size ≤ B) (hb : Below B w w') : Has w' v xs := by
  obtain ⟨A, c, rfl, h1, h2, h3⟩ := h
  refine ⟨A, c, rfl, h1, h2, fun j u hu => ?_⟩
  obtain ⟨g, o, e, hg, hc⟩ := h3 j u hu
  exact ⟨g, o, e, Nat.lt_of_lt_of_le hg hb.size, (hb.cell (p := ⟨g, o + j, none⟩) (by show g < B; omega)).trans hc⟩
theorem Has.of_own {w : World} {base n : Nat} {e : TypeId} {v : Value} {xs : List Value} (h : w.ownsRow base e 1 v n xs) : Has w v xs := by
  have hl : xs.length = n := by have := h.1; omega
  rcases h.2 with ⟨rfl, rfl⟩ | ⟨g, cap, cur, rfl, hb, hg, hnc, hcm, hcs, htake⟩
  · have : xs = [] := List.eq_nil_of_length_eq_zero hl
    subst this
    exact ⟨none, 0, rfl, Nat.le_refl _, by unfold maxLen; omega, fun j u hu => by simp at hu⟩
  · refine ⟨_, cap, by rw [hl], by omega, hcm, fun j u hu => ⟨g, 0, rfl, ?_, ?_⟩⟩
    · exact (Array.getElem?_eq_some_iff.1 hg).1
    · have hj : j < n := by have := (List.getElem?_eq_some_iff.1 hu).1; omega
      rw [Nat.zero_add, h.cellAt j (by omega), hu]
theorem Has.cellAt {w : World} {A : Option Addr} {n c : Nat} {xs : List Value} (h : Has w (.slice A n c) xs) {j : Nat} (hj : j < n) : ∃ g o, A = some ⟨g, o, none⟩ ∧ g < w.heap.size ∧ w.cell? ⟨g, o + j, none⟩ = some (xs.getD j undef) := by
  obtain ⟨A', c', e, h1, h2, h3⟩ := h
  simp only [Value.slice.injEq] at e
  obtain ⟨rfl, rfl, rfl⟩ := e
  obtain ⟨g, o, e, hg, hc⟩ := h3 j _ (List.getElem?_eq_getElem hj)
  exact ⟨g, o, e, hg, by rw [hc]; simp [List.getD, List.getElem?_eq_getElem hj]⟩
theorem Has.len {w : World} {A : Option Addr} {n c : Nat} {xs : List Value} (h : Has w (.slice A n c) xs) : n = xs.length ∧ n ≤ 9223372036854775807 := by
  obtain ⟨A', c', e, h1, h2, _⟩ := h
  simp only [Value.slice.injEq] at e
  obtain ⟨rfl, rfl, rfl⟩ := e
  unfold maxLen at h2
  exact ⟨rfl, by omega⟩
theorem Has.shape {w : World} {v : Value} {xs : List Value} (h : Has w v xs) {n : Nat} (hn : xs.length = n) : ∃ A c, v = .slice A n c ∧ Has w (.slice A n c) xs := by
  subst hn
  obtain ⟨A, c, rfl, h'⟩ := h
  exact ⟨A, c, rfl, A, c, rfl, h'⟩
theorem own_below {w w' : World} {base n : Nat} {e : TypeId} {size : Nat} {v : Value} {xs : List Value} (h : w.ownsRow base e size v n xs) (hb : Below w.heap.size w w') : w'.ownsRow base e size v n xs := by
  refine ⟨h.1, ?_⟩
  rcases h.2 with h2 | ⟨g, cap, cur, hv, hg, hh, r⟩
  · exact .inl h2
  · exact .inr ⟨g, cap, cur, hv, hg, by rw [hb.block g (Array.getElem?_eq_some_iff.1 hh).1]; exact hh, r⟩
theorem grown_below {a w w' : World} {row : Option Nat} (h : a.grownBy w row) (hb : Below w.heap.size w w') : a.grownBy w' row :=
  ⟨hb.os.trans h.os, hb.tape.trans h.tape, hb.output.trans h.output, Nat.le_trans h.size hb.size, fun k hk hne => (hb.block k (Nat.lt_of_lt_of_le hk h.size)).trans (h.block k hk hne)⟩
theorem grown_set {a w : World} {g : Nat} (h : a.grownBy w (some g)) (j : Nat) (u : Value) : a.grownBy (w.setCell ⟨g, j, none⟩ u) (some g) :=
  ⟨h.os, h.tape, h.output, by simpa [World.setCell] using h.size, fun k hk hne => (Below.heap_setCell w ⟨g, j, none⟩ u k (fun e => hne (by rw [e]))).trans (h.block k hk hne)⟩
theorem below_drewN {B : Nat} {a w : World} (h : Below B a w) (n : Nat) : Below B a (w.drewN n) := ⟨h.os, h.tape, h.output, h.size, h.block⟩
theorem own_block {w : World} {base : Nat} {e : TypeId} {size n : Nat} {v : Value} {xs : List Value} (h : w.ownsRow base e size v n xs) : ∀ k, v.ownBlock = some k → base ≤ k := by
  rcases h.2 with ⟨rfl, _⟩ | ⟨g, cap, cur, rfl, hb, _⟩
  · intro k hk; simp [Value.ownBlock] at hk
  · intro k hk; simp [Value.ownBlock] at hk; omega
theorem own_shape {w : World} {base n : Nat} {e : TypeId} {size : Nat} {v : Value} {xs : List Value} (h : w.ownsRow base e size v n xs) (hn : xs ≠ []) :
    ∃ g cap, v = .slice (some ⟨g, 0, none⟩) n cap ∧ base ≤ g ∧ g < w.heap.size := by
  rcases h.2 with ⟨_, hx⟩ | ⟨g, cap, cur, hv, hg, hh, r⟩
  · exact absurd (List.eq_nil_of_length_eq_zero (by rw [h.1, hx, Nat.zero_mul])) hn
  · exact ⟨g, cap, hv, hg, (Array.getElem?_eq_some_iff.1 hh).1⟩
theorem own_grown {w w' : World} {base n g : Nat} {e : TypeId} {size : Nat} {v : Value} {xs : List Value} (h : w.ownsRow base e size v n xs) (hg : w.grownBy w' (some g)) (hlt : g < base) : w'.ownsRow base e size v n xs := by
  refine ⟨h.1, ?_⟩
  rcases h.2 with h2 | ⟨k, cap, cur, hv, hk, hh, r⟩
  · exact .inl h2
  · exact .inr ⟨k, cap, cur, hv, hk, by rw [hg.block k (Array.getElem?_eq_some_iff.1 hh).1 (fun e => by injection e; omega)]; exact hh, r⟩
theorem own_slice {w : World} {base n : Nat} {e : TypeId} {size : Nat} {v : Value} {xs : List Value} (h : w.ownsRow base e size v n xs) : ∃ A cap, v = .slice A n cap ∧ n ≤ cap := by
  rcases h.2 with ⟨hv, hx⟩ | ⟨g, cap, cur, hv, hg, hh, hc, r⟩
  · subst hx; exact ⟨_, _, hv, Nat.le_refl _⟩
  · exact ⟨_, _, hv, hc⟩
theorem below_grown {a w : World} {g B : Nat} (h : a.grownBy w (some g)) (hg : B ≤ g) (hB : B ≤ a.heap.size) : Below B a w :=
  (Below.refl _ _).grown h hB (by intro k hk; cases hk; exact hg)
/-- an owned row of bytes as a string, nil let in -/
theorem run_str_ownA {P : Program} {w : World} {src dst e t : TypeId} (hs : P.underlying src = some (.slice e)) (he : P.underlying e = some (.int .u8)) (hd : P.underlying dst = some .string)
    {base n : Nat} {v : Value} {l : List UInt8} (hown : w.ownsRow base t 1 v n (u8s l)) :
    (convert src dst v).run P w = .ok (.string (bstr l)) w := by
  rcases hown.2 with ⟨rfl, h0⟩ | ⟨g, cap, cur, rfl, _⟩
  · have hl : l = [] := by
      have := hown.1; rw [h0] at this; simp [u8s] at this; exact this
    subst hl
    exact run_str_nil hs he hd
  · exact run_str_own hs he hd hown
end Go.Proofs.Ytiilamngcoegiaa.mem
