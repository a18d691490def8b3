/-
  Mem, Rowl, Trm, Trmv, Setm, Split, Sortm, merged.
-/
import Derived.Test.YtkkmjaggebjcbaaGreatRows
import Derived.WalkKit
import Derived.WalkLawsBesides
import Derived.WalkSpells
import Derived.ProofKit
import Derived.Lib.Hide
import Derived.Laws.BitsLemmas
import Derived.OwnWalk
/-
 SMALL LAWS ON MEMORY AND STRINGS, over any program.
-/
namespace Go.Proofs.YtkkmjaggebjcbaaGreat.mem
open Go.RowKit

theorem ret_int {k : IntKind} {a b : Int} (h : a = b) : Ending.returned (.int k a) = .returned (.int k b) := by rw [h]
theorem ret_bool {a b : Bool} (h : a = b) : Ending.returned (.bool a) = .returned (.bool b) := by rw [h]
theorem ret_str {a b : ByteArray} (h : a = b) : Ending.returned (.string a) = .returned (.string b) := by rw [h]

/-- a string of these bytes -/
def bstr (l : List UInt8) : ByteArray := ⟨l.toArray⟩
/-- the cells of a list of bytes -/
def u8s (l : List UInt8) : List Value := l.map fun b => .int .u8 b.toNat

theorem bstr_size (l : List UInt8) : (bstr l).size = l.length := by simp [bstr, ByteArray.size]
theorem bstr_toList (l : List UInt8) : (bstr l).data.toList = l := by simp [bstr]
theorem bstr_data (s : ByteArray) : bstr s.data.toList = s := by cases s; simp [bstr]
theorem bstr_append (a b : List UInt8) : bstr a ++ bstr b = bstr (a ++ b) := by
 apply ByteArray.ext
 simp [bstr]

theorem fold_push (l : List UInt8) : ∀ s : ByteArray, (l.map fun b => (b.toNat : Int)).foldl (fun r n => r.push (UInt8.ofNat n.toNat)) s = s ++ bstr l := by
 induction l with
 | nil => intro s; apply ByteArray.ext; simp [bstr]
 | cons b l ih =>
  intro s
  simp only [List.map_cons, List.foldl_cons]
  rw [ih]
  apply ByteArray.ext
  simp [bstr]

theorem run_str {P : Program} {w : World} {src dst e : TypeId} (hs : P.underlying src = some (.slice e)) (he : P.underlying e = some (.int .u8)) (hd : P.underlying dst = some .string)
  (a : Addr) (l : List UInt8) {n cap : Nat} (hl : l.length = n) (h : ∀ j u, (u8s l)[j]? = some u → w.cell? (a.add j) = some u) :
  (convert src dst (.slice (some a) n cap)).run P w = .ok (.string (bstr l)) w := by
 rw [run_convert_bytes_string w src dst e (some a) n cap hs he hd]
 have hlen : (u8s l).length = n := by simp [u8s, hl]
 have hload := run_loadCells_list (P := P) (w := w) a (u8s l) h
 rw [hlen] at hload
 rw [run_bytesToString w a n cap (l.map fun b => (b.toNat : Int)) (by rw [hload]; simp [u8s])]
 rw [fold_push]
 congr 2

theorem setCell_own {w : World} {base g n cap size : Nat} {e : TypeId} {xs : List Value} (h : w.ownsRow base e size (.slice (some ⟨g, 0, none⟩) n cap) n xs) (j : Nat) (u : Value) :
  (w.setCell ⟨g, j, none⟩ u).ownsRow base e size (.slice (some ⟨g, 0, none⟩) n cap) n (xs.set j u) := (h.stored j u).1
theorem bstr_one (b : UInt8) : bstr [b] = { data := #[b] } := rfl
theorem bstr_cons (b : UInt8) (l : List UInt8) : ({ data := #[b] } : ByteArray) ++ bstr l = bstr (b :: l) := by
 rw [← bstr_one, bstr_append]; rfl
/-- string([]byte{b}), b just laid in a block of its own -/
theorem run_str_one {P : Program} (w : World) {src dst e t : TypeId} (hs : P.underlying src = some (.slice e)) (he : P.underlying e = some (.int .u8)) (hd : P.underlying dst = some .string)
  (c : Int) (b : UInt8) (hc : c = (b.toNat : Int)) :
  (convert src dst (.slice (some ⟨w.heap.size, 0, none⟩) 1 1)).run P (w.alloc (.cells #[.int .u8 c] t)) = .ok (.string (bstr [b])) (w.alloc (.cells #[.int .u8 c] t)) := by
 subst hc
 refine run_str hs he hd _ [b] rfl fun j u hu => ?_
 match j, hu with
 | 0, hu =>
  simp [u8s] at hu
  subst hu
  simp [Addr.add]
theorem run_index_bstr {P : Program} (w : World) {t : TypeId} {k : IntKind} (h : P.underlying t = some .string) {l : List UInt8} {i : Nat} (hi : i < l.length) :
  (Instr.index t (.string (bstr l)) (.int k (i : Int))).run P w = .ok (.int .u8 ((l.getD i 0).toNat : Int)) w := by
 rw [run_index_string w t _ k _ h]
 have h1 : i < (bstr l).size := by rw [bstr_size]; exact hi
 simp [h1, hi]
 rfl
theorem bstr_eq {a b : List UInt8} : ((bstr a).toList == (bstr b).toList) = decide (a = b) := by
 have h : ∀ l, (bstr l).toList = l := fun l => by rw [ByteArray.toList_eq]; exact bstr_toList l
 rw [h, h, Bool.eq_iff_iff]; simp
/-- one cell just laid in a block of its own: what an append of one element asks -/
theorem one_cell (w : World) (u : Value) (t : TypeId) : ∀ (j : Nat) (x : Value), [u][j]? = some x → (w.alloc (.cells #[u] t)).cell? ((⟨w.heap.size, 0, none⟩ : Addr).add j) = some x := by
 intro j x hj
 match j, hj with
 | 0, hj => simp at hj; subst hj; simp [Addr.add]
theorem one_one (u : Value) (h : u.oneCell' = true) : ∀ x ∈ [u], x.oneCell' = true := by
 intro x hx; simp at hx; subst hx; exact h
/-- v is a slice of one-cell elements that reads as xs -/
def Has (w : World) (v : Value) (xs : List Value) : Prop :=
 ∃ A c, v = .slice A xs.length c ∧ xs.length ≤ c ∧ c ≤ maxLen ∧ ∀ j u, xs[j]? = some u → ∃ g o, A = some ⟨g, o, none⟩ ∧ g < w.heap.size ∧ w.cell? ⟨g, o + j, none⟩ = some u
theorem Has.below {w w' : World} {v : Value} {xs : List Value} (h : Has w v xs) {B : Nat} (hB : w.heap.size ≤ B) (hb : Below B w w') : Has w' v xs := by
 obtain ⟨A, c, rfl, h1, h2, h3⟩ := h
 refine ⟨A, c, rfl, h1, h2, fun j u hu => ?_⟩
 obtain ⟨g, o, e, hg, hc⟩ := h3 j u hu
 exact ⟨g, o, e, Nat.lt_of_lt_of_le hg hb.size, (hb.cell (p := ⟨g, o + j, none⟩) (by show g < B; omega)).trans hc⟩
theorem Has.of_own {w : World} {base n : Nat} {e : TypeId} {v : Value} {xs : List Value} (h : w.ownsRow base e 1 v n xs) : Has w v xs := by
 have hl : xs.length = n := by have := h.1; omega
 rcases h.2 with ⟨rfl, rfl⟩ | ⟨g, cap, cur, rfl, hb, hg, hnc, hcm, hcs, htake⟩
 ·have : xs = [] := List.eq_nil_of_length_eq_zero hl
  subst this
  exact ⟨none, 0, rfl, Nat.le_refl _, by unfold maxLen; omega, fun j u hu => by simp at hu⟩
 ·refine ⟨_, cap, by rw [hl], by omega, hcm, fun j u hu => ⟨g, 0, rfl, ?_, ?_⟩⟩
  ·exact (Array.getElem?_eq_some_iff.1 hg).1
  ·have hj : j < n := by have := (List.getElem?_eq_some_iff.1 hu).1; omega
   rw [Nat.zero_add, h.cellAt j (by omega), hu]
theorem Has.cellAt {w : World} {A : Option Addr} {n c : Nat} {xs : List Value} (h : Has w (.slice A n c) xs) {j : Nat} (hj : j < n) : ∃ g o, A = some ⟨g, o, none⟩ ∧ g < w.heap.size ∧ w.cell? ⟨g, o + j, none⟩ = some (xs.getD j undef) := by
 obtain ⟨A', c', e, h1, h2, h3⟩ := h
 simp only [Value.slice.injEq] at e
 obtain ⟨rfl, rfl, rfl⟩ := e
 obtain ⟨g, o, e, hg, hc⟩ := h3 j _ (List.getElem?_eq_getElem hj)
 exact ⟨g, o, e, hg, by rw [hc]; simp [List.getD, List.getElem?_eq_getElem hj]⟩
theorem Has.len {w : World} {A : Option Addr} {n c : Nat} {xs : List Value} (h : Has w (.slice A n c) xs) : n = xs.length ∧ n ≤ 9223372036854775807 := by
 obtain ⟨A', c', e, h1, h2, _⟩ := h
 simp only [Value.slice.injEq] at e
 obtain ⟨rfl, rfl, rfl⟩ := e
 unfold maxLen at h2
 exact ⟨rfl, by omega⟩
theorem Has.shape {w : World} {v : Value} {xs : List Value} (h : Has w v xs) {n : Nat} (hn : xs.length = n) : ∃ A c, v = .slice A n c ∧ Has w (.slice A n c) xs := by
 subst hn
 obtain ⟨A, c, rfl, h'⟩ := h
 exact ⟨A, c, rfl, A, c, rfl, h'⟩
theorem own_below {w w' : World} {base n : Nat} {e : TypeId} {size : Nat} {v : Value} {xs : List Value} (h : w.ownsRow base e size v n xs) (hb : Below w.heap.size w w') : w'.ownsRow base e size v n xs := by
 refine ⟨h.1, ?_⟩
 rcases h.2 with h2 | ⟨g, cap, cur, hv, hg, hh, r⟩
 ·exact .inl h2
 ·exact .inr ⟨g, cap, cur, hv, hg, by rw [hb.block g (Array.getElem?_eq_some_iff.1 hh).1]; exact hh, r⟩
theorem grown_below {a w w' : World} {row : Option Nat} (h : a.grownBy w row) (hb : Below w.heap.size w w') : a.grownBy w' row :=
 ⟨hb.os.trans h.os, hb.tape.trans h.tape, hb.output.trans h.output, Nat.le_trans h.size hb.size, fun k hk hne => (hb.block k (Nat.lt_of_lt_of_le hk h.size)).trans (h.block k hk hne)⟩
theorem grown_set {a w : World} {g : Nat} (h : a.grownBy w (some g)) (j : Nat) (u : Value) : a.grownBy (w.setCell ⟨g, j, none⟩ u) (some g) :=
 ⟨h.os, h.tape, h.output, by simpa [World.setCell] using h.size, fun k hk hne => (Below.heap_setCell w ⟨g, j, none⟩ u k (fun e => hne (by rw [e]))).trans (h.block k hk hne)⟩
theorem below_drewN {B : Nat} {a w : World} (h : Below B a w) (n : Nat) : Below B a (w.drewN n) := ⟨h.os, h.tape, h.output, h.size, h.block⟩
theorem own_block {w : World} {base : Nat} {e : TypeId} {size n : Nat} {v : Value} {xs : List Value} (h : w.ownsRow base e size v n xs) : ∀ k, v.ownBlock = some k → base ≤ k := by
 rcases h.2 with ⟨rfl, _⟩ | ⟨g, cap, cur, rfl, hb, _⟩
 ·intro k hk; simp [Value.ownBlock] at hk
 ·intro k hk; simp [Value.ownBlock] at hk; omega
theorem own_shape {w : World} {base n : Nat} {e : TypeId} {size : Nat} {v : Value} {xs : List Value} (h : w.ownsRow base e size v n xs) (hn : xs ≠ []) :
  ∃ g cap, v = .slice (some ⟨g, 0, none⟩) n cap ∧ base ≤ g ∧ g < w.heap.size := by
 rcases h.2 with ⟨_, hx⟩ | ⟨g, cap, cur, hv, hg, hh, r⟩
 ·exact absurd (List.eq_nil_of_length_eq_zero (by rw [h.1, hx, Nat.zero_mul])) hn
 ·exact ⟨g, cap, hv, hg, (Array.getElem?_eq_some_iff.1 hh).1⟩
theorem own_grown {w w' : World} {base n g : Nat} {e : TypeId} {size : Nat} {v : Value} {xs : List Value} (h : w.ownsRow base e size v n xs) (hg : w.grownBy w' (some g)) (hlt : g < base) : w'.ownsRow base e size v n xs := by
 refine ⟨h.1, ?_⟩
 rcases h.2 with h2 | ⟨k, cap, cur, hv, hk, hh, r⟩
 ·exact .inl h2
 ·exact .inr ⟨k, cap, cur, hv, hk, by rw [hg.block k (Array.getElem?_eq_some_iff.1 hh).1 (fun e => by injection e; omega)]; exact hh, r⟩
theorem own_slice {w : World} {base n : Nat} {e : TypeId} {size : Nat} {v : Value} {xs : List Value} (h : w.ownsRow base e size v n xs) : ∃ A cap, v = .slice A n cap ∧ n ≤ cap := by
 rcases h.2 with ⟨hv, hx⟩ | ⟨g, cap, cur, hv, hg, hh, hc, r⟩
 ·subst hx; exact ⟨_, _, hv, Nat.le_refl _⟩
 ·exact ⟨_, _, hv, hc⟩
end Go.Proofs.YtkkmjaggebjcbaaGreat.mem
/-
 ROWS OF STRUCTS IN MEMORY, over any program: a slice of k-cell elements, each of which reads as an element of a list; all that it reaches lies at or above a bound.
-/
namespace Go.Proofs.YtkkmjaggebjcbaaGreat.rowl
open Go.ChangeShapes Go.WideShapes Go.ChangeAt Go.RowKit
open mem

def I64 (x : Int) : Prop := -9223372036854775808 ≤ x ∧ x ≤ 9223372036854775807
/-- nothing at or above the bound has changed -/
def Kept (lo : Nat) (w w' : World) : Prop := w.heap.size ≤ w'.heap.size ∧ ∀ k, lo ≤ k → k < w.heap.size → w'.heap[k]? = w.heap[k]?
theorem Kept.refl (lo : Nat) (w : World) : Kept lo w w := ⟨Nat.le_refl _, fun _ _ _ => rfl⟩
theorem Kept.trans {lo : Nat} {w w' w'' : World} (h : Kept lo w w') (h' : Kept lo w' w'') : Kept lo w w'' :=
 ⟨Nat.le_trans h.1 h'.1, fun k hk hlt => (h'.2 k hk (Nat.lt_of_lt_of_le hlt h.1)).trans (h.2 k hk hlt)⟩
theorem Kept.mono {lo lo' : Nat} {w w' : World} (h : Kept lo w w') (hl : lo ≤ lo') : Kept lo' w w' := ⟨h.1, fun k hk => h.2 k (Nat.le_trans hl hk)⟩
theorem Kept.below {lo B : Nat} {w w' : World} (hb : Below B w w') (hB : w.heap.size ≤ B) : Kept lo w w' := ⟨hb.size, fun k _ hlt => hb.block k (Nat.lt_of_lt_of_le hlt hB)⟩
theorem Kept.set {lo : Nat} {w : World} {p : Addr} (hp : p.block < lo) (u : Value) : Kept lo w (w.setCell p u) :=
 ⟨by simp [World.setCell], fun k hk _ => Below.heap_setCell w p u k (by omega)⟩
theorem Kept.grown {lo g : Nat} {w w' : World} (h : w.grownBy w' (some g)) (hg : g < lo) : Kept lo w w' := ⟨h.size, fun k hk hlt => h.block k hlt (fun e => by injection e; omega)⟩
theorem Kept.cell {lo : Nat} {w w' : World} (h : Kept lo w w') {g o : Nat} (hg : lo ≤ g) (hlt : g < w.heap.size) : w'.cell? ⟨g, o, none⟩ = w.cell? ⟨g, o, none⟩ :=
 World.cell?_of_block (w := w) (h.2 g hg hlt)

/-- as 'Has', at or above a bound -/
def HasL (lo : Nat) (w : World) (v : Value) (xs : List Value) : Prop :=
 ∃ A c, v = .slice A xs.length c ∧ xs.length ≤ c ∧ c ≤ maxLen ∧ ∀ j u, xs[j]? = some u → ∃ g o, A = some ⟨g, o, none⟩ ∧ lo ≤ g ∧ g < w.heap.size ∧ w.cell? ⟨g, o + j, none⟩ = some u
theorem HasL.has {lo : Nat} {w : World} {v : Value} {xs : List Value} (h : HasL lo w v xs) : Has w v xs := by
 obtain ⟨A, c, rfl, h1, h2, h3⟩ := h
 exact ⟨A, c, rfl, h1, h2, fun j u hu => by obtain ⟨g, o, e, _, hg, hc⟩ := h3 j u hu; exact ⟨g, o, e, hg, hc⟩⟩
theorem HasL.of_has {w : World} {v : Value} {xs : List Value} (h : Has w v xs) : HasL 0 w v xs := by
 obtain ⟨A, c, rfl, h1, h2, h3⟩ := h
 exact ⟨A, c, rfl, h1, h2, fun j u hu => by obtain ⟨g, o, e, hg, hc⟩ := h3 j u hu; exact ⟨g, o, e, Nat.zero_le _, hg, hc⟩⟩
theorem HasL.kept {lo : Nat} {w w' : World} {v : Value} {xs : List Value} (h : HasL lo w v xs) (hk : Kept lo w w') : HasL lo w' v xs := by
 obtain ⟨A, c, rfl, h1, h2, h3⟩ := h
 refine ⟨A, c, rfl, h1, h2, fun j u hu => ?_⟩
 obtain ⟨g, o, e, hl, hg, hc⟩ := h3 j u hu
 exact ⟨g, o, e, hl, Nat.lt_of_lt_of_le hg hk.1, (hk.cell hl hg).trans hc⟩
theorem HasL.mono {lo lo' : Nat} {w : World} {v : Value} {xs : List Value} (h : HasL lo w v xs) (hl : lo' ≤ lo) : HasL lo' w v xs := by
 obtain ⟨A, c, rfl, h1, h2, h3⟩ := h
 exact ⟨A, c, rfl, h1, h2, fun j u hu => by obtain ⟨g, o, e, h4, hg, hc⟩ := h3 j u hu; exact ⟨g, o, e, Nat.le_trans hl h4, hg, hc⟩⟩
theorem HasL.of_own {w : World} {base n : Nat} {e : TypeId} {v : Value} {xs : List Value} (h : w.ownsRow base e 1 v n xs) : HasL base w v xs := by
 have hl : xs.length = n := by have := h.1; omega
 rcases h.2 with ⟨rfl, rfl⟩ | ⟨g, cap, cur, rfl, hb, hg, hnc, hcm, hcs, htake⟩
 ·have : xs = [] := List.eq_nil_of_length_eq_zero hl
  subst this
  exact ⟨none, 0, rfl, Nat.le_refl _, by unfold maxLen; omega, fun j u hu => by simp at hu⟩
 ·refine ⟨_, cap, by rw [hl], by omega, hcm, fun j u hu => ⟨g, 0, rfl, hb, (Array.getElem?_eq_some_iff.1 hg).1, ?_⟩⟩
  have hj : j < n := by have := (List.getElem?_eq_some_iff.1 hu).1; omega
  rw [Nat.zero_add, h.cellAt j (by omega), hu]

section
variable {α : Type} [Inhabited α]
/-- how one element reads: at or above lo, in the world w, the cells cs are x -/
abbrev Reads (α : Type) := Nat → World → List Value → α → Prop
/-- v is a slice of k-cell elements that read as L -/
def HasR (R : Reads α) (k : Nat) (lo : Nat) (w : World) (v : Value) (L : List α) : Prop :=
 ∃ A c, v = .slice A L.length c ∧ L.length ≤ c ∧ c ≤ maxLen ∧ ∀ j, j < L.length → ∃ g o cs, A = some ⟨g, o, none⟩ ∧ lo ≤ g ∧ g < w.heap.size ∧
  (∀ i, i < k → w.cell? ⟨g, o + j * k + i, none⟩ = some (cs.getD i undef)) ∧ R lo w cs (L.getD j default)
/-- a reading stays where nothing at or above the bound changes, and the bound may fall -/
structure Steady (R : Reads α) : Prop where
 kept : ∀ {lo w w' cs x}, R lo w cs x → Kept lo w w' → R lo w' cs x
 mono : ∀ {lo lo' w cs x}, R lo w cs x → lo' ≤ lo → R lo' w cs x
variable {R : Reads α} {k : Nat}
theorem HasR.kept (hR : Steady R) {lo : Nat} {w w' : World} {v : Value} {L : List α} (h : HasR R k lo w v L) (hk : Kept lo w w') : HasR R k lo w' v L := by
 obtain ⟨A, c, rfl, h1, h2, h3⟩ := h
 refine ⟨A, c, rfl, h1, h2, fun j hj => ?_⟩
 obtain ⟨g, o, cs, e, hl, hg, hc, hr⟩ := h3 j hj
 exact ⟨g, o, cs, e, hl, Nat.lt_of_lt_of_le hg hk.1, fun i hi => (hk.cell hl hg).trans (hc i hi), hR.kept hr hk⟩
theorem HasR.mono (hR : Steady R) {lo lo' : Nat} {w : World} {v : Value} {L : List α} (h : HasR R k lo w v L) (hl : lo' ≤ lo) : HasR R k lo' w v L := by
 obtain ⟨A, c, rfl, h1, h2, h3⟩ := h
 refine ⟨A, c, rfl, h1, h2, fun j hj => ?_⟩
 obtain ⟨g, o, cs, e, h4, hg, hc, hr⟩ := h3 j hj
 exact ⟨g, o, cs, e, Nat.le_trans hl h4, hg, hc, hR.mono hr hl⟩
theorem HasR.below (hR : Steady R) {lo : Nat} {w w' : World} {v : Value} {L : List α} (h : HasR R k lo w v L) {B : Nat} (hB : w.heap.size ≤ B) (hb : Below B w w') : HasR R k lo w' v L := h.kept hR (Kept.below hb hB)
theorem HasR.shape {lo : Nat} {w : World} {v : Value} {L : List α} (h : HasR R k lo w v L) {n : Nat} (hn : L.length = n) : ∃ A c, v = .slice A n c ∧ HasR R k lo w (.slice A n c) L := by
 subst hn
 obtain ⟨A, c, rfl, h'⟩ := h
 exact ⟨A, c, rfl, A, c, rfl, h'⟩
theorem HasR.len {lo : Nat} {w : World} {A : Option Addr} {n c : Nat} {L : List α} (h : HasR R k lo w (.slice A n c) L) : n = L.length ∧ n ≤ 9223372036854775807 ∧ n ≤ c := by
 obtain ⟨A', c', e, h1, h2, _⟩ := h
 simp only [Value.slice.injEq] at e
 obtain ⟨rfl, rfl, rfl⟩ := e
 unfold maxLen at h2
 exact ⟨rfl, by omega, h1⟩
theorem HasR.get {lo : Nat} {w : World} {A : Option Addr} {n c : Nat} {L : List α} (h : HasR R k lo w (.slice A n c) L) {j : Nat} (hj : j < n) :
  ∃ g o cs, A = some ⟨g, o, none⟩ ∧ lo ≤ g ∧ g < w.heap.size ∧ (∀ i, i < k → w.cell? ⟨g, o + j * k + i, none⟩ = some (cs.getD i undef)) ∧ R lo w cs (L.getD j default) := by
 obtain ⟨A', c', e, h1, h2, h3⟩ := h
 simp only [Value.slice.injEq] at e
 obtain ⟨rfl, rfl, rfl⟩ := e
 exact h3 j hj
/-- without its first element -/
theorem HasR.tail {lo : Nat} {w : World} {g o n c : Nat} {L : List α} (h : HasR R k lo w (.slice (some ⟨g, o, none⟩) n c) L) (hn : 1 ≤ n) :
  HasR R k lo w (.slice (some ⟨g, o + k, none⟩) (n - 1) (c - 1)) L.tail := by
 obtain ⟨hl, _, hc⟩ := h.len
 obtain ⟨A', c', e, h1, h2, h3⟩ := h
 simp only [Value.slice.injEq] at e
 obtain ⟨rfl, rfl, rfl⟩ := e
 refine ⟨_, _, by rw [List.length_tail], by rw [List.length_tail]; omega, by omega, fun j hj => ?_⟩
 rw [List.length_tail] at hj
 obtain ⟨g', o', cs, e, hlo, hg, hc, hr⟩ := h3 (j + 1) (by omega)
 simp only [Option.some.injEq, Addr.mk.injEq, and_true] at e
 obtain ⟨rfl, rfl⟩ := e
 refine ⟨g, o + k, cs, rfl, hlo, hg, fun i hi => ?_, ?_⟩
 ·rw [← hc i hi, show o + k + j * k + i = o + (j + 1) * k + i by rw [Nat.add_mul]; omega]
 ·have : L.tail.getD j default = L.getD (j + 1) default := by cases L <;> simp
  rw [this]; exact hr
theorem HasR.nil (lo : Nat) (w : World) (c : Nat) (hc : c ≤ maxLen) (A : Option Addr) : HasR R k lo w (.slice A 0 c) ([] : List α) := ⟨A, c, rfl, Nat.zero_le _, hc, fun j hj => by simp at hj⟩
/-- a row of its own -/
theorem HasR.of_own {w : World} {base n : Nat} {e : TypeId} {v : Value} {xs : List Value} {L : List α} (h : w.ownsRow base e k v n xs) (hL : L.length = n)
  (hx : ∀ j, j < n → ∃ cs, (∀ i, i < k → xs[j * k + i]? = some (cs.getD i undef)) ∧ R base w cs (L.getD j default)) : HasR R k base w v L := by
 rcases h.2 with ⟨rfl, rfl⟩ | ⟨g, cap, cur, rfl, hb, hg, hnc, hcm, hcs, htake⟩
 ·have : L = [] := List.eq_nil_of_length_eq_zero hL
  subst this
  exact HasR.nil _ _ _ (by unfold maxLen; omega) _
 ·refine ⟨_, cap, by rw [hL], by omega, hcm, fun j hj => ?_⟩
  obtain ⟨cs, h1, h2⟩ := hx j (by omega)
  refine ⟨g, 0, cs, rfl, hb, (Array.getElem?_eq_some_iff.1 hg).1, fun i hi => ?_, h2⟩
  have hjn : (j + 1) * k ≤ n * k := Nat.mul_le_mul_right k (by omega)
  rw [Nat.add_mul] at hjn
  rw [Nat.zero_add, h.cellAt (j * k + i) (by omega)]; exact h1 i hi
theorem HasR.map {R' : Reads α} (hR : ∀ {lo w cs x}, R lo w cs x → R' lo w cs x) {lo : Nat} {w : World} {v : Value} {L : List α} (h : HasR R k lo w v L) : HasR R' k lo w v L := by
 obtain ⟨A, c, rfl, h1, h2, h3⟩ := h
 refine ⟨A, c, rfl, h1, h2, fun j hj => ?_⟩
 obtain ⟨g, o, cs, e, h4, hg, hc, hr⟩ := h3 j hj
 exact ⟨g, o, cs, e, h4, hg, hc, hR hr⟩
end
/-- five cells written into a row -/
theorem set5_old {ys : List Value} {p : Nat} {a b c d e : Value} {i : Nat} (h : i < p ∨ p + 5 ≤ i) : (((((ys.set p a).set (p + 1) b).set (p + 2) c).set (p + 3) d).set (p + 4) e)[i]? = ys[i]? := by
 rw [List.getElem?_set_ne (by omega), List.getElem?_set_ne (by omega), List.getElem?_set_ne (by omega), List.getElem?_set_ne (by omega), List.getElem?_set_ne (by omega)]
theorem set5_new {ys : List Value} {p : Nat} {a b c d e : Value} (h : p + 5 ≤ ys.length) : ∀ i, i < 5 → (((((ys.set p a).set (p + 1) b).set (p + 2) c).set (p + 3) d).set (p + 4) e)[p + i]? = some ([a, b, c, d, e].getD i undef) := by
 intro i hi
 match i, hi with
 | 0, _ => rw [List.getElem?_set_ne (by omega), List.getElem?_set_ne (by omega), List.getElem?_set_ne (by omega), List.getElem?_set_ne (by omega), Nat.add_zero, List.getElem?_set_self (by omega)]; rfl
 | 1, _ => rw [List.getElem?_set_ne (by omega), List.getElem?_set_ne (by omega), List.getElem?_set_ne (by omega), List.getElem?_set_self (by simp; omega)]; rfl
 | 2, _ => rw [List.getElem?_set_ne (by omega), List.getElem?_set_ne (by omega), List.getElem?_set_self (by simp; omega)]; rfl
 | 3, _ => rw [List.getElem?_set_ne (by omega), List.getElem?_set_self (by simp; omega)]; rfl
 | 4, _ => rw [List.getElem?_set_self (by simp; omega)]; rfl
theorem set2_old {ys : List Value} {p : Nat} {a b : Value} {i : Nat} (h : i < p ∨ p + 2 ≤ i) : ((ys.set p a).set (p + 1) b)[i]? = ys[i]? := by
 rw [List.getElem?_set_ne (by omega), List.getElem?_set_ne (by omega)]
theorem set2_new {ys : List Value} {p : Nat} {a b : Value} (h : p + 2 ≤ ys.length) : ∀ i, i < 2 → ((ys.set p a).set (p + 1) b)[p + i]? = some ([a, b].getD i undef) := by
 intro i hi
 match i, hi with
 | 0, _ => rw [List.getElem?_set_ne (by omega), Nat.add_zero, List.getElem?_set_self (by omega)]; rfl
 | 1, _ => rw [List.getElem?_set_self (by simp; omega)]; rfl
/-- cells of a row of one's own -/
theorem own_get {w : World} {g n cap base size : Nat} {e : TypeId} {xs : List Value} (h : w.ownsRow base e size (.slice (some ⟨g, 0, none⟩) n cap) n xs) {i : Nat} (hi : i < n * size) :
  (∃ v, w.cell? ⟨g, i, none⟩ = some v) ∧ w.frozen? ⟨g, i, none⟩ = false := by
 refine ⟨?_, h.frozenAt _⟩
 rw [h.cellAt i hi]
 exact ⟨_, List.getElem?_eq_getElem (by have := h.1; omega)⟩
end Go.Proofs.YtkkmjaggebjcbaaGreat.rowl
/-
 PLAIN MATHEMATICS OF TERMS: trees, their order, their variables, lists of them. No program.
-/
namespace Go.Proofs.YtkkmjaggebjcbaaGreat.trm

/-- a term: the operator (-1: a variable), the name, the sort, the arguments -/
inductive TermM where
 | mk (op : Int) (name : List UInt8) (sort : Int) (args : List TermM)
instance : Inhabited TermM := ⟨.mk 0 [] 0 []⟩
def TermM.op : TermM → Int | .mk o _ _ _ => o
def TermM.name : TermM → List UInt8 | .mk _ n _ _ => n
def TermM.sort : TermM → Int | .mk _ _ s _ => s
def TermM.args : TermM → List TermM | .mk _ _ _ l => l
theorem TermM.eta (t : TermM) : TermM.mk t.op t.name t.sort t.args = t := by cases t; rfl
/-- induction over the arguments -/
theorem TermM.ind {P : TermM → Prop} (h : ∀ o n s l, (∀ t ∈ l, P t) → P (.mk o n s l)) : ∀ t, P t :=
 fun t => TermM.rec (motive_1 := P) (motive_2 := fun l => ∀ t ∈ l, P t) h (fun t ht => by simp at ht) (fun a l ha hl t ht => by
  rcases List.mem_cons.1 ht with rfl | ht
  ·exact ha
  ·exact hl t ht) t

/-- the number of nodes -/
noncomputable def size (t : TermM) : Nat := TermM.rec (motive_1 := fun _ => Nat) (motive_2 := fun _ => Nat) (fun _ _ _ _ k => 1 + k) 0 (fun _ _ a b => a + b) t
noncomputable def sizes (l : List TermM) : Nat := (l.map size).sum
theorem size_mk (o : Int) (n : List UInt8) (s : Int) (l : List TermM) : size (.mk o n s l) = 1 + sizes l := by
 have : ∀ l : List TermM, (TermM.rec_1 (motive_1 := fun _ => Nat) (motive_2 := fun _ => Nat) (fun _ _ _ _ k => 1 + k) 0 (fun _ _ a b => a + b) l : Nat) = sizes l := by
  intro l
  induction l with
  | nil => rfl
  | cons a l ih => simp only [sizes, List.map_cons, List.sum_cons]; rw [sizes] at ih; rw [← ih]; rfl
 show 1 + _ = _
 rw [this]
/-- the depth -/
noncomputable def depth (t : TermM) : Nat := TermM.rec (motive_1 := fun _ => Nat) (motive_2 := fun _ => Nat) (fun _ _ _ _ k => k + 1) 0 (fun _ _ a b => max a b) t
noncomputable def depths (l : List TermM) : Nat := l.foldr (fun t k => max (depth t) k) 0
theorem depth_mk (o : Int) (n : List UInt8) (s : Int) (l : List TermM) : depth (.mk o n s l) = depths l + 1 := by
 have : ∀ l : List TermM, (TermM.rec_1 (motive_1 := fun _ => Nat) (motive_2 := fun _ => Nat) (fun _ _ _ _ k => k + 1) 0 (fun _ _ a b => max a b) l : Nat) = depths l := by
  intro l
  induction l with
  | nil => rfl
  | cons a l ih => simp only [depths, List.foldr_cons]; rw [depths] at ih; rw [← ih]; rfl
 show _ + 1 = _
 rw [this]

/-- the order of byte strings: 'less' as Go compares -/
def lessB : List UInt8 → List UInt8 → Bool
 | _, [] => false
 | [], _ :: _ => true
 | a :: l, b :: m => if a = b then lessB l m else decide (a < b)
def cmpB (a b : List UInt8) : Int := if a = b then 0 else if lessB a b then -1 else 1
def cmpI (a b : Int) : Int := if a = b then 0 else if a < b then -1 else 1
/-- the order of terms -/
noncomputable def cmp (t : TermM) : TermM → Int :=
 TermM.rec (motive_1 := fun _ => TermM → Int) (motive_2 := fun _ => List TermM → Int)
  (fun o n s _ f u => if cmpI o u.op ≠ 0 then cmpI o u.op else if cmpB n u.name ≠ 0 then cmpB n u.name else if cmpI s u.sort ≠ 0 then cmpI s u.sort else f u.args)
  (fun m => match m with | [] => 0 | _ :: _ => -1)
  (fun _ _ fa fl m => match m with | [] => 1 | b :: m => if fa b ≠ 0 then fa b else fl m) t
/-- lexicographic, a proper prefix first -/
noncomputable def cmpL : List TermM → List TermM → Int
 | [], [] => 0
 | [], _ :: _ => -1
 | _ :: _, [] => 1
 | a :: l, b :: m => if cmp a b ≠ 0 then cmp a b else cmpL l m
theorem cmp_mk (o : Int) (n : List UInt8) (s : Int) (l : List TermM) (u : TermM) :
  cmp (.mk o n s l) u = if cmpI o u.op ≠ 0 then cmpI o u.op else if cmpB n u.name ≠ 0 then cmpB n u.name else if cmpI s u.sort ≠ 0 then cmpI s u.sort else cmpL l u.args := by
 have : ∀ (l m : List TermM), (TermM.rec_1 (motive_1 := fun _ => TermM → Int) (motive_2 := fun _ => List TermM → Int)
   (fun o n s _ f u => if cmpI o u.op ≠ 0 then cmpI o u.op else if cmpB n u.name ≠ 0 then cmpB n u.name else if cmpI s u.sort ≠ 0 then cmpI s u.sort else f u.args)
   (fun m => match m with | [] => 0 | _ :: _ => -1)
   (fun _ _ fa fl m => match m with | [] => 1 | b :: m => if fa b ≠ 0 then fa b else fl m) l : List TermM → Int) m = cmpL l m := by
  intro l
  induction l with
  | nil => intro m; cases m <;> rfl
  | cons a l ih =>
   intro m
   cases m with
   | nil => rfl
   | cons b m => rw [cmpL, ← ih m]; rfl
 rw [← this]
 rfl
theorem cmp_mk2 (o : Int) (n : List UInt8) (s : Int) (l : List TermM) (o' : Int) (n' : List UInt8) (s' : Int) (m : List TermM) :
  cmp (.mk o n s l) (.mk o' n' s' m) = if cmpI o o' ≠ 0 then cmpI o o' else if cmpB n n' ≠ 0 then cmpB n n' else if cmpI s s' ≠ 0 then cmpI s s' else cmpL l m := cmp_mk o n s l _
/-- of one list what the loop has compared: the first k are equal -/
theorem cmpL_skip : ∀ (k : Nat) (l m : List TermM), k ≤ l.length → k ≤ m.length → (∀ j, j < k → cmp (l.getD j default) (m.getD j default) = 0) → cmpL l m = cmpL (l.drop k) (m.drop k)
 | 0, _, _, _, _, _ => by simp
 | k + 1, [], _, h, _, _ => by simp at h
 | k + 1, _ :: _, [], _, h, _ => by simp at h
 | k + 1, a :: l, b :: m, h1, h2, h => by
  have h0 : cmp a b = 0 := by simpa using h 0 (by omega)
  rw [cmpL, if_neg (by simp [h0]), List.drop_succ_cons, List.drop_succ_cons]
  exact cmpL_skip k l m (by simpa using h1) (by simpa using h2) (fun j hj => by simpa using h (j + 1) (by omega))
theorem cmpL_hit {l m : List TermM} {k : Nat} (h1 : k < l.length) (h2 : k < m.length) (h : ∀ j, j < k → cmp (l.getD j default) (m.getD j default) = 0) (hk : cmp (l.getD k default) (m.getD k default) ≠ 0) : cmpL l m = cmp (l.getD k default) (m.getD k default) := by
 rw [cmpL_skip k l m (by omega) (by omega) h, List.drop_eq_getElem_cons h1, List.drop_eq_getElem_cons h2, cmpL]
 have e1 : l.getD k default = l[k] := by simp [List.getD, List.getElem?_eq_getElem h1]
 have e2 : m.getD k default = m[k] := by simp [List.getD, List.getElem?_eq_getElem h2]
 rw [e1, e2] at hk ⊢
 rw [if_pos hk]
theorem cmpL_end {l m : List TermM} (h : ∀ j, j < l.length → j < m.length → cmp (l.getD j default) (m.getD j default) = 0) : cmpL l m = cmpI l.length m.length := by
 rw [cmpL_skip (min l.length m.length) l m (Nat.min_le_left _ _) (Nat.min_le_right _ _) (fun j hj => h j (by omega) (by omega))]
 rcases Nat.lt_trichotomy l.length m.length with hlt | heq | hgt
 ·have e1 : l.drop (min l.length m.length) = [] := List.drop_eq_nil_of_le (by omega)
  have hl : (m.drop (min l.length m.length)).length = m.length - min l.length m.length := List.length_drop
  rw [e1]
  cases hm : m.drop (min l.length m.length) with
  | nil => rw [hm] at hl; simp at hl; omega
  | cons b r => rw [cmpL, cmpI, if_neg (by omega), if_pos (by omega)]
 ·have e1 : l.drop (min l.length m.length) = [] := List.drop_eq_nil_of_le (by omega)
  have e2 : m.drop (min l.length m.length) = [] := List.drop_eq_nil_of_le (by omega)
  rw [e1, e2, cmpL, cmpI, if_pos (by omega)]
 ·have e2 : m.drop (min l.length m.length) = [] := List.drop_eq_nil_of_le (by omega)
  have hl : (l.drop (min l.length m.length)).length = l.length - min l.length m.length := List.length_drop
  rw [e2]
  cases hm : l.drop (min l.length m.length) with
  | nil => rw [hm] at hl; simp at hl; omega
  | cons b r => rw [cmpL, cmpI, if_neg (by omega), if_neg (by omega)]
/-- the order is a total one -/
theorem lessB_irr : ∀ l, lessB l l = false
 | [] => rfl
 | a :: l => by simp [lessB, lessB_irr l]
theorem lessB_total : ∀ l m, l ≠ m → lessB l m = false → lessB m l = true
 | [], [], h, _ => absurd rfl h
 | [], _ :: _, _, h => by simp [lessB] at h
 | _ :: _, [], _, _ => by simp [lessB]
 | a :: l, b :: m, hne, h => by
  simp only [lessB] at h ⊢
  by_cases e : a = b
  ·subst e
   simp only [if_true] at h ⊢
   exact lessB_total l m (fun e => hne (by rw [e])) h
  ·rw [if_neg e] at h
   rw [if_neg (fun e2 => e e2.symm)]
   simp only [decide_eq_false_iff_not, decide_eq_true_eq] at h ⊢
   have h1 : a.toNat ≠ b.toNat := fun e2 => e (UInt8.toNat_inj.1 e2)
   rw [UInt8.lt_iff_toNat_lt] at h ⊢
   omega
theorem lessB_asymm : ∀ l m, lessB l m = true → lessB m l = false
 | [], [], h => by simp [lessB] at h
 | [], _ :: _, _ => by simp [lessB]
 | _ :: _, [], h => by simp [lessB] at h
 | a :: l, b :: m, h => by
  simp only [lessB] at h ⊢
  by_cases e : a = b
  ·subst e
   simp only [if_true] at h ⊢
   exact lessB_asymm l m h
  ·rw [if_neg e] at h
   rw [if_neg (fun e2 => e e2.symm)]
   simp only [decide_eq_false_iff_not, decide_eq_true_eq] at h ⊢
   rw [UInt8.lt_iff_toNat_lt] at h ⊢
   omega
theorem lessB_trans : ∀ l m r, lessB l m = true → lessB m r = true → lessB l r = true
 | _, _, [], _, h => by simp [lessB] at h
 | [], _, _ :: _, _, _ => by simp [lessB]
 | _ :: _, [], _, h, _ => by simp [lessB] at h
 | a :: l, b :: m, c :: r, h1, h2 => by
  simp only [lessB] at h1 h2 ⊢
  by_cases e : a = b
  ·subst e
   simp only [if_true] at h1
   by_cases e2 : a = c
   ·subst e2
    simp only [if_true] at h2 ⊢
    exact lessB_trans l m r h1 h2
   ·rw [if_neg e2] at h2 ⊢; exact h2
  ·rw [if_neg e] at h1
   by_cases e2 : b = c
   ·subst e2
    rw [if_neg e]; exact h1
   ·rw [if_neg e2] at h2
    simp only [decide_eq_true_eq] at h1 h2
    rw [UInt8.lt_iff_toNat_lt] at h1 h2
    have : a ≠ c := fun e3 => by subst e3; omega
    rw [if_neg this]
    simp only [decide_eq_true_eq]
    rw [UInt8.lt_iff_toNat_lt]; omega
theorem cmpI_swap (a b : Int) : cmpI b a = - cmpI a b := by unfold cmpI; (repeat' split) <;> omega
theorem cmpB_swap (a b : List UInt8) : cmpB b a = - cmpB a b := by
 unfold cmpB
 by_cases e : a = b
 ·subst e; simp
 ·rw [if_neg e, if_neg (fun e2 => e e2.symm)]
  cases h : lessB a b with
  | true => rw [lessB_asymm a b h]; simp
  | false => rw [lessB_total a b e h]; simp
theorem cmpI_zero {a b : Int} : cmpI a b = 0 ↔ a = b := by unfold cmpI; (repeat' split) <;> simp_all
theorem cmpB_zero {a b : List UInt8} : cmpB a b = 0 ↔ a = b := by unfold cmpB; (repeat' split) <;> simp_all
theorem cmp_swap : ∀ t u, cmp u t = - cmp t u := by
 refine TermM.ind (fun o n s l ih u => ?_)
 obtain ⟨o', n', s', m⟩ := u
 rw [cmp_mk2, cmp_mk2]
 rw [cmpI_swap o o', cmpB_swap n n', cmpI_swap s s']
 have hL : ∀ l : List TermM, (∀ t ∈ l, ∀ u, cmp u t = - cmp t u) → ∀ m, cmpL m l = - cmpL l m := by
  intro l
  induction l with
  | nil => intro _ m; cases m <;> simp [cmpL]
  | cons a l ihl =>
   intro h m
   cases m with
   | nil => simp [cmpL]
   | cons b m =>
    rw [cmpL, cmpL, h a (by simp) b, ihl (fun t ht => h t (by simp [ht])) m]
    by_cases e : cmp a b = 0
    ·simp [e]
    ·have : ¬ - cmp a b = 0 := by omega
     simp [e, this]
 rw [hL l ih m]
 by_cases h1 : cmpI o o' = 0
 ·by_cases h2 : cmpB n n' = 0
  ·by_cases h3 : cmpI s s' = 0
   ·simp [h1, h2, h3]
   ·have : ¬ - cmpI s s' = 0 := by omega
    simp [h1, h2, h3, this]
  ·have : ¬ - cmpB n n' = 0 := by omega
   simp [h1, h2, this]
 ·have : ¬ - cmpI o o' = 0 := by omega
  simp [h1, this]
theorem cmp_zero : ∀ t u, cmp t u = 0 ↔ t = u := by
 refine TermM.ind (fun o n s l ih u => ?_)
 obtain ⟨o', n', s', m⟩ := u
 rw [cmp_mk2]
 simp only [TermM.mk.injEq]
 have hL : ∀ l : List TermM, (∀ t ∈ l, ∀ u, cmp t u = 0 ↔ t = u) → ∀ m, cmpL l m = 0 ↔ l = m := by
  intro l
  induction l with
  | nil => intro _ m; cases m <;> simp [cmpL]
  | cons a l ihl =>
   intro h m
   cases m with
   | nil => simp [cmpL]
   | cons b m =>
    rw [cmpL, List.cons.injEq, ← h a (by simp) b, ← ihl (fun t ht => h t (by simp [ht])) m]
    by_cases e : cmp a b = 0 <;> simp [e]
 rw [← cmpI_zero (a := o), ← cmpB_zero (a := n), ← cmpI_zero (a := s), ← hL l ih m]
 by_cases h1 : cmpI o o' = 0
 ·by_cases h2 : cmpB n n' = 0
  ·by_cases h3 : cmpI s s' = 0
   ·simp [h1, h2, h3]
   ·simp [h1, h2, h3]
  ·simp [h1, h2]
 ·simp [h1]
theorem cmp_self (t : TermM) : cmp t t = 0 := (cmp_zero t t).2 rfl
/-- the order is transitive -/
theorem cmp_trans : ∀ t u v, cmp t u ≤ 0 → cmp u v ≤ 0 → cmp t v ≤ 0 := by
 have hI : ∀ a b c : Int, cmpI a b ≤ 0 → cmpI b c ≤ 0 → (cmpI a c ≤ 0 ∧ (cmpI a c = 0 → cmpI a b = 0 ∧ cmpI b c = 0)) := by
  intro a b c h1 h2
  unfold cmpI at *
  (repeat' split at h1) <;> (repeat' split at h2) <;> (repeat' split) <;> simp_all <;> omega
 have hB : ∀ a b c : List UInt8, cmpB a b ≤ 0 → cmpB b c ≤ 0 → (cmpB a c ≤ 0 ∧ (cmpB a c = 0 → cmpB a b = 0 ∧ cmpB b c = 0)) := by
  intro a b c h1 h2
  by_cases e1 : a = b
  ·subst e1
   exact ⟨h2, fun h => ⟨by simp [cmpB], h⟩⟩
  ·by_cases e2 : b = c
   ·subst e2
    exact ⟨h1, fun h => ⟨h, by simp [cmpB]⟩⟩
   ·have l1 : lessB a b = true := by
     unfold cmpB at h1; rw [if_neg e1] at h1
     cases h : lessB a b with
     | true => rfl
     | false => simp [h] at h1
    have l2 : lessB b c = true := by
     unfold cmpB at h2; rw [if_neg e2] at h2
     cases h : lessB b c with
     | true => rfl
     | false => simp [h] at h2
    have l3 := lessB_trans a b c l1 l2
    have e3 : a ≠ c := fun e => by subst e; rw [lessB_irr] at l3; cases l3
    have : cmpB a c = -1 := by rw [cmpB, if_neg e3, if_pos l3]
    exact ⟨by omega, fun h => by omega⟩
 refine TermM.ind (fun o n s l ih u v => ?_)
 obtain ⟨o2, n2, s2, m⟩ := u
 obtain ⟨o3, n3, s3, r⟩ := v
 rw [cmp_mk2, cmp_mk2, cmp_mk2]
 have hL : ∀ l : List TermM, (∀ t ∈ l, ∀ u v, cmp t u ≤ 0 → cmp u v ≤ 0 → cmp t v ≤ 0) → ∀ m r, cmpL l m ≤ 0 → cmpL m r ≤ 0 → cmpL l r ≤ 0 := by
  intro l
  induction l with
  | nil => intro _ m r _ _; cases r <;> simp [cmpL]
  | cons a l ihl =>
   intro h m r h1 h2
   cases m with
   | nil => simp [cmpL] at h1
   | cons b m =>
    cases r with
    | nil => simp [cmpL] at h2
    | cons c r =>
     rw [cmpL] at h1 h2 ⊢
     have hab : cmp a b ≤ 0 := by
      by_cases e : cmp a b = 0
      ·omega
      ·simpa [e] using h1
     have hbc : cmp b c ≤ 0 := by
      by_cases e : cmp b c = 0
      ·omega
      ·simpa [e] using h2
     have hac := h a (by simp) b c hab hbc
     by_cases e : cmp a c = 0
     ·have eac := (cmp_zero a c).1 e
      have e1 : cmp a b = 0 := by
       have := cmp_swap b c
       rw [← eac] at this hbc
       have := cmp_swap a b
       omega
      have e2 : cmp b c = 0 := by
       rw [← eac, cmp_swap a b, e1]; rfl
      simp only [e1, e2, ne_eq, not_true_eq_false, if_false] at h1 h2
      simp only [e, ne_eq, not_true_eq_false, if_false]
      exact ihl (fun t ht => h t (by simp [ht])) m r h1 h2
     ·simp only [e, ne_eq, not_false_eq_true, if_true]; exact hac
 intro h1 h2
 have k1 : cmpI o o2 ≤ 0 := by
  by_cases e : cmpI o o2 = 0
  ·omega
  ·simpa [e] using h1
 have k2 : cmpI o2 o3 ≤ 0 := by
  by_cases e : cmpI o2 o3 = 0
  ·omega
  ·simpa [e] using h2
 obtain ⟨k3, k4⟩ := hI o o2 o3 k1 k2
 by_cases e : cmpI o o3 = 0
 ·obtain ⟨z1, z2⟩ := k4 e
  simp only [z1, z2, e, ne_eq, not_true_eq_false, if_false] at h1 h2 ⊢
  have q1 : cmpB n n2 ≤ 0 := by
   by_cases e : cmpB n n2 = 0
   ·omega
   ·simpa [e] using h1
  have q2 : cmpB n2 n3 ≤ 0 := by
   by_cases e : cmpB n2 n3 = 0
   ·omega
   ·simpa [e] using h2
  obtain ⟨q3, q4⟩ := hB n n2 n3 q1 q2
  by_cases e : cmpB n n3 = 0
  ·obtain ⟨z1, z2⟩ := q4 e
   simp only [z1, z2, e, not_true_eq_false, if_false] at h1 h2 ⊢
   have r1 : cmpI s s2 ≤ 0 := by
    by_cases e : cmpI s s2 = 0
    ·omega
    ·simpa [e] using h1
   have r2 : cmpI s2 s3 ≤ 0 := by
    by_cases e : cmpI s2 s3 = 0
    ·omega
    ·simpa [e] using h2
   obtain ⟨r3, r4⟩ := hI s s2 s3 r1 r2
   by_cases e : cmpI s s3 = 0
   ·obtain ⟨z1, z2⟩ := r4 e
    simp only [z1, z2, e, not_true_eq_false, if_false] at h1 h2 ⊢
    exact hL l ih m r h1 h2
   ·simp only [e, not_false_eq_true, if_true]; exact r3
  ·simp only [e, not_false_eq_true, if_true]; exact q3
 ·simp only [e, ne_eq, not_false_eq_true, if_true]; exact k3
end Go.Proofs.YtkkmjaggebjcbaaGreat.trm
/-
 PLAIN MATHEMATICS OF TERMS: variables, occurrences, sorted lists. No program.
-/
namespace Go.Proofs.YtkkmjaggebjcbaaGreat.trmv
open trm

theorem getD_at {l : List TermM} {k : Nat} (h : k < l.length) : l.getD k default = l[k] := by simp [List.getD, List.getElem?_eq_getElem h]
theorem cmp_lt_trans {a b c : TermM} (h1 : cmp a b < 0) (h2 : cmp b c < 0) : cmp a c < 0 := by
 have h := cmp_trans a b c (by omega) (by omega)
 have hne : cmp a c ≠ 0 := fun e => by
  have e2 := (cmp_zero a c).1 e
  subst e2
  have := cmp_swap a b
  omega
 omega
/-- in non-descending order -/
def Srt (l : List TermM) : Prop := l.Pairwise fun a b => cmp a b ≤ 0
theorem srt_unique : ∀ (l m : List TermM), Srt l → Srt m → l.Perm m → l = m
 | [], m, _, _, h => (List.Perm.nil_eq h)
 | a :: l, [], _, _, h => absurd h.length_eq (by simp)
 | a :: l, b :: m, hl, hm, h => by
  obtain ⟨l1, l2⟩ := List.pairwise_cons.1 hl
  obtain ⟨m1, m2⟩ := List.pairwise_cons.1 hm
  have hab : a = b := by
   rcases List.mem_cons.1 (h.mem_iff.1 (show a ∈ a :: l by simp)) with e | ha
   ·exact e
   ·rcases List.mem_cons.1 (h.mem_iff.2 (show b ∈ b :: m by simp)) with e | hb
    ·exact e.symm
    ·have h1 := m1 a ha
     have h2 := l1 b hb
     have := cmp_swap a b
     exact (cmp_zero a b).1 (by omega)
  subst hab
  rw [srt_unique l m l2 m2 (List.Perm.cons_inv h)]
/-- one element put where all behind it are greater and the one before it isn't -/
theorem srt_put {l : List TermM} {t : TermM} {k : Nat} (hl : Srt l) (hk : k ≤ l.length) (h1 : ∀ j, k ≤ j → j < l.length → 0 < cmp (l.getD j default) t) (h2 : 0 < k → ¬ 0 < cmp (l.getD (k - 1) default) t) :
  Srt (l.take k ++ t :: l.drop k) ∧ (l.take k ++ t :: l.drop k).Perm (t :: l) := by
 have hsplit : l.take k ++ l.drop k = l := List.take_append_drop k l
 have hl2 : Srt (l.take k ++ l.drop k) := by rw [hsplit]; exact hl
 obtain ⟨a1, a2, a3⟩ := List.pairwise_append.1 hl2
 have hdrop : ∀ b ∈ l.drop k, 0 < cmp b t := by
  intro b hb
  obtain ⟨j, hj, rfl⟩ := List.getElem_of_mem hb
  have hjl : k + j < l.length := by rw [List.length_drop] at hj; omega
  have := h1 (k + j) (by omega) hjl
  rw [getD_at hjl] at this
  rw [List.getElem_drop]; exact this
 have htake : ∀ b ∈ l.take k, cmp b t ≤ 0 := by
  intro b hb
  obtain ⟨j, hj, rfl⟩ := List.getElem_of_mem hb
  have hjk : j < k := by rw [List.length_take] at hj; omega
  have hp : cmp (l.getD (k - 1) default) t ≤ 0 := by have := h2 (by omega); omega
  have hk1 : k - 1 < l.length := by omega
  rw [getD_at hk1] at hp
  rw [List.getElem_take]
  by_cases e : j = k - 1
  ·subst e; exact hp
  ·exact cmp_trans _ _ _ (List.pairwise_iff_getElem.1 hl j (k - 1) (by omega) hk1 (by omega)) hp
 refine ⟨List.pairwise_append.2 ⟨a1, List.pairwise_cons.2 ⟨fun b hb => ?_, a2⟩, fun b hb c hc => ?_⟩, ?_⟩
 ·have := hdrop b hb
  have := cmp_swap b t
  omega
 ·rcases List.mem_cons.1 hc with rfl | hc
  ·exact htake b hb
  ·exact a3 b hb c hc
 ·have hp : (l.take k ++ t :: l.drop k).Perm (t :: (l.take k ++ l.drop k)) := List.perm_middle
  rw [hsplit] at hp
  exact hp
/-- there is a sorted form of every list -/
noncomputable def insS : List TermM → TermM → List TermM
 | [], t => [t]
 | a :: l, t => if cmp a t ≤ 0 then a :: insS l t else t :: a :: l
theorem insS_perm : ∀ (l : List TermM) (t : TermM), (insS l t).Perm (t :: l)
 | [], t => List.Perm.refl _
 | a :: l, t => by
  rw [insS]
  split
  ·exact ((insS_perm l t).cons a).trans (List.Perm.swap t a l)
  ·exact List.Perm.refl _
theorem insS_srt : ∀ (l : List TermM) (t : TermM), Srt l → Srt (insS l t)
 | [], t, _ => by simp [insS, Srt]
 | a :: l, t, h => by
  obtain ⟨h1, h2⟩ := List.pairwise_cons.1 h
  rw [insS]
  split
  ·rename_i h3
   refine List.pairwise_cons.2 ⟨fun b hb => ?_, insS_srt l t h2⟩
   rcases List.mem_cons.1 ((insS_perm l t).mem_iff.1 hb) with rfl | hb
   ·exact h3
   ·exact h1 b hb
  ·rename_i h3
   have hta : cmp t a ≤ 0 := by have := cmp_swap a t; omega
   refine List.pairwise_cons.2 ⟨fun b hb => ?_, h⟩
   rcases List.mem_cons.1 hb with rfl | hb
   ·exact hta
   ·exact cmp_trans _ _ _ hta (h1 b hb)
noncomputable def sortM (l : List TermM) : List TermM := l.foldl insS []
theorem sortM_spec (l : List TermM) : Srt (sortM l) ∧ (sortM l).Perm l := by
 have : ∀ (l acc : List TermM), Srt acc → Srt (l.foldl insS acc) ∧ (l.foldl insS acc).Perm (acc ++ l) := by
  intro l
  induction l with
  | nil => intro acc h; exact ⟨h, by simp⟩
  | cons a l ih =>
   intro acc h
   obtain ⟨h1, h2⟩ := ih (insS acc a) (insS_srt acc a h)
   refine ⟨h1, h2.trans ?_⟩
   refine ((insS_perm acc a).append_right l).trans ?_
   exact (List.perm_middle (l₁ := acc) (l₂ := l) (a := a)).symm
 simpa [sortM] using this l [] List.Pairwise.nil
theorem sortM_unique {l m : List TermM} (h1 : Srt m) (h2 : m.Perm l) : m = sortM l := srt_unique _ _ h1 (sortM_spec l).1 (h2.trans (sortM_spec l).2.symm)
end Go.Proofs.YtkkmjaggebjcbaaGreat.trmv
/-
 PLAIN MATHEMATICS OF SETS OF SMALL NUMBERS: no program. A set is a natural number; its elements are its bits.
-/
namespace Go.Proofs.YtkkmjaggebjcbaaGreat.setm
open mem

theorem wraps_u16 (n : Int) (_h₀ : 0 ≤ n) (h₁ : n < 2 ^ 16) : IntKind.u16.wrap n = n := by
 simp [IntKind.wrap, IntKind.bits, IntKind.signed]; omega
theorem wraps_i64 (n : Int) (h₀ : 0 ≤ n) (h₁ : n < 2 ^ 62) : IntKind.i64.wrap n = n := by
 rw [IntKind.wrap_i64]; omega
theorem and1_i64 (n : Int) : bits .and .i64 n 1 = n % 2 := by
 have h1 : (BitVec.ofInt 64 1).toNat = 2 ^ 1 - 1 := by decide
 have key : (BitVec.ofInt 64 n &&& BitVec.ofInt 64 1).toNat = (n % ((2 ^ 64 : Nat) : Int)).toNat % 2 ^ 1 := by
  rw [BitVec.toNat_and, BitVec.toNat_ofInt, h1, Nat.and_two_pow_sub_one_eq_mod]
 show IntKind.i64.wrap ((BitVec.ofInt 64 n &&& BitVec.ofInt 64 1).toNat : Nat) = n % 2
 rw [key, IntKind.wrap_i64]
 omega
theorem and_u16 (a b : Nat) (ha : a < 65536) (hb : b < 65536) : bits .and .u16 (a : Int) (b : Int) = ((a &&& b : Nat) : Int) := (bits_nat .u16 16 (by decide) wraps_u16 a b ha hb).1
theorem or_u16 (a b : Nat) (ha : a < 65536) (hb : b < 65536) : bits .or .u16 (a : Int) (b : Int) = ((a ||| b : Nat) : Int) := (bits_nat .u16 16 (by decide) wraps_u16 a b ha hb).2
theorem or_i64 (a b : Nat) (ha : a < 65536) (hb : b < 65536) : bits .or .i64 (a : Int) (b : Int) = ((a ||| b : Nat) : Int) :=
 (bits_nat .i64 62 (by decide) wraps_i64 a b (by omega) (by omega)).2
/-- is the set a within the set b? -/
def sub (a b : Nat) : Bool := decide (a &&& b = a)
theorem bit_div (s k : Nat) : decide ((s : Int) / 2 ^ k % 2 = 1) = s.testBit k := by
 rw [Nat.testBit_eq_decide_div_mod_eq]
 congr 1
 rw [eq_iff_iff]
 have : ((s : Int) / 2 ^ k % 2 = ((s / 2 ^ k % 2 : Nat) : Int)) := by simp
 rw [this]
 omega
theorem pow_lt {k : Nat} (hk : k < 16) : 2 ^ k < 65536 := Nat.pow_lt_pow_right (by decide) hk
/-- the elements below k -/
def elsTo (s k : Nat) : List Nat := (List.range k).filter s.testBit
/-- the elements of a set, in ascending order -/
def els (s : Nat) : List Nat := elsTo s 16
/-- a list of ints as cells -/
def ivs (L : List Int) : List Value := L.map (Value.int .i64)
theorem ivs_len (L : List Int) : (ivs L).length = L.length := by simp [ivs]
theorem ivs_get (L : List Int) (k : Nat) (h : k < L.length) : (ivs L).getD k undef = .int .i64 (L.getD k 0) := by
 simp [ivs, List.getD, List.getElem?_map, List.getElem?_eq_getElem h]

/-- is this int a valid set? -/
def ok (n : Int) : Bool := decide (0 ≤ n ∧ n < 65536)
def nats (L : List Nat) : List Int := L.map Int.ofNat
end Go.Proofs.YtkkmjaggebjcbaaGreat.setm
/-
 PLAIN MATHEMATICS OF SPLITTING, and the contracts of the two SplitByte.
-/
namespace Go.Proofs.YtkkmjaggebjcbaaGreat.split
open Go.ChangeShapes Go.WideShapes Go.ChangeAt Go.RowKit
open mem

/-- x is laid ahead of the first part -/
def pre (x : List UInt8) : List (List UInt8) → List (List UInt8)
 | [] => [x]
 | h :: r => (x ++ h) :: r
def split (c : UInt8) : List UInt8 → List (List UInt8)
 | [] => [[]]
 | b :: t => if b = c then [] :: split c t else pre [b] (split c t)

/-- P: the parts so far; s: where the next one begins; i: what has been looked at -/
def Inv (c : UInt8) (l : List UInt8) (P : List (List UInt8)) (s i : Nat) : Prop := s ≤ i ∧ P.length ≤ i ∧ split c l = P ++ pre ((l.take i).drop s) (split c (l.drop i))
def ssv (P : List (List UInt8)) : List Value := P.map fun x => .string (bstr x)
theorem ssv_append (P Q : List (List UInt8)) : ssv (P ++ Q) = ssv P ++ ssv Q := by simp [ssv]
theorem ssv_len (P : List (List UInt8)) : (ssv P).length = P.length := by simp [ssv]

theorem info_str : (Tryz.prog.info? 9).map (fun i => (i.zero, i.size, i.bytes)) = some (some (.string .empty), 1, 16) := by kernel_rfl

end Go.Proofs.YtkkmjaggebjcbaaGreat.split
/-
 PLAIN MATHEMATICS OF SORTS: closures of pairs in rounds, what they reach, the least of a kind, least and greatest elements, valid names.
-/
namespace Go.Proofs.YtkkmjaggebjcbaaGreat.sortm
open mem setm

/-- i reaches j in at most r steps of P -/
def nl (P : List (Nat × Nat)) (j : Nat) : Nat → Nat → Bool
 | 0, i => i == j
 | r + 1, i => nl P j r i || P.any fun p => p.1 == i && nl P j r p.2
def rea (P : List (Nat × Nat)) (n i j : Nat) : Bool := nl P j n i
/-- all numbers of the pairs are below n -/
def InR (n : Nat) (P : List (Nat × Nat)) : Prop := ∀ p ∈ P, p.1 < n ∧ p.2 < n

theorem nl_succ {P : List (Nat × Nat)} {j r i : Nat} : nl P j (r + 1) i = true ↔ nl P j r i = true ∨ ∃ p ∈ P, p.1 = i ∧ nl P j r p.2 = true := by
 simp [nl]
theorem nl_mono {P : List (Nat × Nat)} {j r i : Nat} (h : nl P j r i = true) (s : Nat) (hs : r ≤ s) : nl P j s i = true := by
 induction s with
 | zero => have : r = 0 := by omega
           subst this; exact h
 | succ s ih =>
  by_cases hr : r = s + 1
  ·subst hr; exact h
  ·exact nl_succ.2 (.inl (ih (by omega)))
theorem countP_le_of {p q : Nat → Bool} : ∀ {l : List Nat}, (∀ x, p x = true → q x = true) → l.countP p ≤ l.countP q
 | [], _ => by simp
 | x :: l, h => by
  have := countP_le_of (l := l) h
  rw [List.countP_cons, List.countP_cons]
  by_cases hx : p x = true
  ·rw [if_pos hx, if_pos (h x hx)]; omega
  ·rw [if_neg hx]; omega
theorem countP_lt_of {p q : Nat → Bool} (h : ∀ x, p x = true → q x = true) {a : Nat} (hp : p a = false) (hq : q a = true) : ∀ {l : List Nat}, a ∈ l → l.countP p < l.countP q
 | [], ha => by simp at ha
 | x :: l, ha => by
  rw [List.countP_cons, List.countP_cons]
  by_cases hx : x = a
  ·subst hx
   have := countP_le_of (l := l) h
   rw [if_neg (by simp [hp]), if_pos hq]; omega
  ·have := countP_lt_of h hp hq (l := l) (by simpa [Ne.symm hx] using ha)
   by_cases hpx : p x = true
   ·rw [if_pos hpx, if_pos (h x hpx)]; omega
   ·rw [if_neg hpx]; omega
theorem nl_closed {n : Nat} {P : List (Nat × Nat)} (hP : InR n P) {j : Nat} (hj : j < n) : ∀ p ∈ P, nl P j n p.2 = true → nl P j n p.1 = true := by
 have key : ∀ r, (∀ p ∈ P, nl P j r p.2 = true → nl P j r p.1 = true) ∨ r + 1 ≤ (List.range n).countP (nl P j r) := by
  intro r
  induction r with
  | zero =>
   right
   have h0 : 0 < (List.range n).countP (nl P j 0) := List.countP_pos_iff.2 ⟨j, by simpa using hj, by simp [nl]⟩
   omega
  | succ r ih =>
   rcases ih with hc | hc
   ·left
    intro p hp h
    refine nl_succ.2 (.inl ?_)
    rcases nl_succ.1 h with h1 | ⟨q, hq, e, h1⟩
    ·exact hc p hp h1
    ·refine hc p hp ?_
     rw [← e]; exact hc q hq h1
   ·by_cases hcl : ∀ p ∈ P, nl P j r p.2 = true → nl P j r p.1 = true
    ·left
     intro p hp h
     refine nl_succ.2 (.inl ?_)
     rcases nl_succ.1 h with h1 | ⟨q, hq, e, h1⟩
     ·exact hcl p hp h1
     ·refine hcl p hp ?_
      rw [← e]; exact hcl q hq h1
    ·right
     simp only [Classical.not_forall] at hcl
     obtain ⟨p, hp, h2, h1⟩ := hcl
     have := countP_lt_of (p := nl P j r) (q := nl P j (r + 1)) (fun x hx => nl_mono hx _ (by omega)) (a := p.1) (by simpa using h1) (nl_succ.2 (.inr ⟨p, hp, rfl, h2⟩)) (l := List.range n) (by simpa using (hP p hp).1)
     omega
 rcases key n with h | h
 ·exact h
 ·have := List.countP_le_length (p := nl P j n) (l := List.range n)
  simp at this
  omega

theorem rea_refl (P : List (Nat × Nat)) (n i : Nat) : rea P n i i = true := nl_mono (r := 0) (by simp [nl]) n (Nat.zero_le _)
theorem rea_step {n : Nat} {P : List (Nat × Nat)} (hP : InR n P) {j : Nat} (hj : j < n) {p : Nat × Nat} (hp : p ∈ P) (h : rea P n p.2 j = true) : rea P n p.1 j = true := nl_closed hP hj p hp h
theorem nl_ind {P : List (Nat × Nat)} {j : Nat} {Q : Nat → Prop} (h0 : Q j) (h1 : ∀ p ∈ P, Q p.2 → Q p.1) : ∀ r i, nl P j r i = true → Q i
 | 0, i, h => by simp [nl] at h; subst h; exact h0
 | r + 1, i, h => by
  rcases nl_succ.1 h with h' | ⟨p, hp, rfl, h'⟩
  ·exact nl_ind h0 h1 r i h'
  ·exact h1 p hp (nl_ind h0 h1 r _ h')
theorem rea_trans {n : Nat} {P : List (Nat × Nat)} (hP : InR n P) {i k j : Nat} (hj : j < n) (h : rea P n i k = true) (h2 : rea P n k j = true) : rea P n i j = true :=
 nl_ind (Q := fun x => rea P n x j = true) h2 (fun _ hp hq => rea_step hP hj hp hq) n i h
/-! ### the closure, in rounds -/
def stepU (U : List Nat) (p : Nat × Nat) : List Nat := U.set p.1 (U.getD p.1 0 ||| U.getD p.2 0)
def roundU (P : List (Nat × Nat)) (U : List Nat) : List Nat := P.foldl stepU U
def iterU (P : List (Nat × Nat)) (U : List Nat) : Nat → List Nat
 | 0 => U
 | r + 1 => roundU P (iterU P U r)
def ident (n : Nat) : List Nat := (List.range n).map fun i => 2 ^ i
def clo (n : Nat) (P : List (Nat × Nat)) : List Nat := iterU P (ident n) n

theorem getD_set {U : List Nat} {a : Nat} (v i : Nat) (ha : a < U.length) : (U.set a v).getD i 0 = if i = a then v else U.getD i 0 := by
 by_cases h : i = a
 ·subst h; simp [List.getD, ha]
 ·rw [if_neg h]; simp [List.getD, List.getElem?_set_ne (Ne.symm h)]
theorem stepU_len (U : List Nat) (p : Nat × Nat) : (stepU U p).length = U.length := by simp [stepU]
theorem foldU_len (L : List (Nat × Nat)) : ∀ U : List Nat, (L.foldl stepU U).length = U.length := by
 induction L with
 | nil => intro U; rfl
 | cons p L ih => intro U; rw [List.foldl_cons, ih, stepU_len]
theorem iterU_len (P : List (Nat × Nat)) (U : List Nat) (r : Nat) : (iterU P U r).length = U.length := by
 induction r with
 | zero => rfl
 | succ r ih => rw [iterU, roundU, foldU_len, ih]
theorem ident_len (n : Nat) : (ident n).length = n := by simp [ident]
theorem clo_len (n : Nat) (P : List (Nat × Nat)) : (clo n P).length = n := by rw [clo, iterU_len, ident_len]
theorem ident_get (n i : Nat) (h : i < n) : (ident n).getD i 0 = 2 ^ i := by simp [ident, List.getD, h]
theorem stepU_get {U : List Nat} {p : Nat × Nat} (hp : p.1 < U.length) (i : Nat) : (stepU U p).getD i 0 = if i = p.1 then U.getD p.1 0 ||| U.getD p.2 0 else U.getD i 0 := getD_set _ _ hp

/-- what stands in U is reached -/
def Snd (n : Nat) (P : List (Nat × Nat)) (U : List Nat) : Prop := ∀ i j, (U.getD i 0).testBit j = true → j < n ∧ rea P n i j = true
theorem snd_step {n : Nat} {P : List (Nat × Nat)} (hP : InR n P) {U : List Nat} (hU : U.length = n) (h : Snd n P U) {p : Nat × Nat} (hp : p ∈ P) : Snd n P (stepU U p) := by
 intro i j hb
 rw [stepU_get (by rw [hU]; exact (hP p hp).1)] at hb
 by_cases hi : i = p.1
 ·rw [if_pos hi, Nat.testBit_or, Bool.or_eq_true] at hb
  subst hi
  rcases hb with hb | hb
  ·exact h _ _ hb
  ·obtain ⟨hj, hr⟩ := h _ _ hb
   exact ⟨hj, rea_step hP hj hp hr⟩
 ·rw [if_neg hi] at hb; exact h _ _ hb
theorem snd_fold {n : Nat} {P : List (Nat × Nat)} (hP : InR n P) : ∀ (L : List (Nat × Nat)), (∀ p ∈ L, p ∈ P) → ∀ U : List Nat, U.length = n → Snd n P U → Snd n P (L.foldl stepU U)
 | [], _, U, _, h => h
 | p :: L, hL, U, hU, h => snd_fold hP L (fun q hq => hL q (by simp [hq])) _ (by rw [stepU_len, hU]) (snd_step hP hU h (hL p (by simp)))
theorem snd_iter {n : Nat} {P : List (Nat × Nat)} (hP : InR n P) (r : Nat) : Snd n P (iterU P (ident n) r) := by
 induction r with
 | zero =>
  intro i j hb
  by_cases hi : i < n
  ·rw [iterU, ident_get n i hi, Nat.testBit_two_pow] at hb
   have : i = j := by simpa using hb
   subst this
   exact ⟨hi, rea_refl _ _ _⟩
  ·rw [iterU, List.getD, List.getElem?_eq_none (by rw [ident_len]; omega)] at hb
   simp at hb
 | succ r ih => exact snd_fold hP P (fun _ h => h) _ (by rw [iterU_len, ident_len]) ih

theorem fold_mono {n : Nat} : ∀ (L : List (Nat × Nat)), InR n L → ∀ (U : List Nat), U.length = n → ∀ i j, (U.getD i 0).testBit j = true → ((L.foldl stepU U).getD i 0).testBit j = true
 | [], _, _, _, _, _, h => h
 | p :: L, hL, U, hU, i, j, h => by
  refine fold_mono L (fun q hq => hL q (by simp [hq])) _ (by rw [stepU_len, hU]) i j ?_
  rw [stepU_get (by rw [hU]; exact (hL p (by simp)).1)]
  by_cases hi : i = p.1
  ·subst hi; rw [if_pos rfl, Nat.testBit_or, h]; rfl
  ·rw [if_neg hi]; exact h
theorem fold_hit {n : Nat} : ∀ (L : List (Nat × Nat)), InR n L → ∀ (U : List Nat), U.length = n → ∀ p ∈ L, ∀ j, (U.getD p.2 0).testBit j = true → ((L.foldl stepU U).getD p.1 0).testBit j = true
 | [], _, _, _, p, hp, _, _ => by simp at hp
 | q :: L, hL, U, hU, p, hp, j, h => by
  have hq := hL q (by simp)
  have hL' : InR n L := fun x hx => hL x (by simp [hx])
  rcases List.mem_cons.1 hp with rfl | hp'
  ·refine fold_mono L hL' _ (by rw [stepU_len, hU]) _ _ ?_
   rw [stepU_get (by rw [hU]; exact hq.1), if_pos rfl, Nat.testBit_or, h, Bool.or_true]
  ·refine fold_hit L hL' _ (by rw [stepU_len, hU]) p hp' j ?_
   have := fold_mono [q] (fun x hx => by simp at hx; subst hx; exact hq) U hU p.2 j h
   simpa using this
theorem cmp_iter {n : Nat} {P : List (Nat × Nat)} (hP : InR n P) (j : Nat) : ∀ (r i : Nat), i < n → nl P j r i = true → ((iterU P (ident n) r).getD i 0).testBit j = true
 | 0, i, hi, h => by
  simp [nl] at h
  subst h
  rw [iterU, ident_get n i hi, Nat.testBit_two_pow]; simp
 | r + 1, i, hi, h => by
  have hl : (iterU P (ident n) r).length = n := by rw [iterU_len, ident_len]
  rcases nl_succ.1 h with h' | ⟨p, hp, rfl, h'⟩
  ·exact fold_mono P hP _ hl _ _ (cmp_iter hP j r i hi h')
  ·exact fold_hit P hP _ hl p hp j (cmp_iter hP j r p.2 (hP p hp).2 h')
theorem clo_bit {n : Nat} {P : List (Nat × Nat)} (hP : InR n P) {i : Nat} (hi : i < n) (j : Nat) : ((clo n P).getD i 0).testBit j = true ↔ j < n ∧ rea P n i j = true :=
 ⟨snd_iter hP n i j, fun h => cmp_iter hP j n i hi h.2⟩
theorem clo_lt {n : Nat} {P : List (Nat × Nat)} (hP : InR n P) (i : Nat) : (clo n P).getD i 0 < 2 ^ n :=
 Nat.lt_pow_two_of_testBit _ fun j hj => by
  cases h : ((clo n P).getD i 0).testBit j with
  | false => rfl
  | true => have := (snd_iter hP n i j h).1; omega
/-- within a round -/
def midU (n : Nat) (P : List (Nat × Nat)) (r k : Nat) : List Nat := (P.take k).foldl stepU (iterU P (ident n) r)
theorem midU_len (n : Nat) (P : List (Nat × Nat)) (r k : Nat) : (midU n P r k).length = n := by rw [midU, foldU_len, iterU_len, ident_len]
theorem midU_zero (n : Nat) (P : List (Nat × Nat)) (r : Nat) : midU n P r 0 = iterU P (ident n) r := by simp [midU]
theorem midU_succ (n : Nat) (P : List (Nat × Nat)) (r k : Nat) (h : k < P.length) : midU n P r (k + 1) = stepU (midU n P r k) (P.getD k (0, 0)) := by
 rw [midU, List.take_succ_eq_append_getElem h, List.foldl_append]
 simp [midU, List.getD, List.getElem?_eq_getElem h]
theorem midU_last (n : Nat) (P : List (Nat × Nat)) (r : Nat) : midU n P r P.length = iterU P (ident n) (r + 1) := by simp [midU, iterU, roundU]
theorem midU_lt {n : Nat} {P : List (Nat × Nat)} (hP : InR n P) (r k i : Nat) : (midU n P r k).getD i 0 < 2 ^ n :=
 Nat.lt_pow_two_of_testBit _ fun j hj => by
  cases h : ((midU n P r k).getD i 0).testBit j with
  | false => rfl
  | true =>
   have := (snd_fold hP (P.take k) (fun p hp => List.mem_of_mem_take hp) _ (by rw [iterU_len, ident_len]) (snd_iter hP r) i j h).1
   omega

/-! ### kinds -/
def both (P : List (Nat × Nat)) : List (Nat × Nat) := P.flatMap fun p => [p, (p.2, p.1)]
theorem mem_both {P : List (Nat × Nat)} {q : Nat × Nat} : q ∈ both P ↔ q ∈ P ∨ (q.2, q.1) ∈ P := by
 constructor
 ·intro h
  obtain ⟨p, hp, hq⟩ := List.mem_flatMap.1 h
  simp only [List.mem_cons, List.not_mem_nil, or_false] at hq
  rcases hq with rfl | rfl
  ·exact .inl hp
  ·exact .inr hp
 ·rintro (h | h)
  ·exact List.mem_flatMap.2 ⟨_, h, by simp⟩
  ·exact List.mem_flatMap.2 ⟨_, h, by simp⟩
theorem both_in {n : Nat} {P : List (Nat × Nat)} (hP : InR n P) : InR n (both P) := by
 intro q hq
 rcases mem_both.1 hq with h | h
 ·exact hP q h
 ·exact ⟨(hP _ h).2, (hP _ h).1⟩
theorem both_swap {P : List (Nat × Nat)} {q : Nat × Nat} (h : q ∈ both P) : (q.2, q.1) ∈ both P := mem_both.2 (by
 rcases mem_both.1 h with h | h
 ·exact .inr h
 ·exact .inl h)
theorem rea_symm {n : Nat} {P : List (Nat × Nat)} (hP : InR n P) {i j : Nat} (hi : i < n) (_hj : j < n) (h : rea (both P) n i j = true) : rea (both P) n j i = true := by
 have hB := both_in hP
 have : i < n → rea (both P) n j i = true := by
  refine nl_ind (P := both P) (j := j) (Q := fun x => x < n → rea (both P) n j x = true) (fun _ => rea_refl _ _ _) (fun p hp hq hp1 => ?_) n i h
  refine rea_trans hB hp1 (hq (hB p hp).2) ?_
  exact rea_step hB hp1 (both_swap hp) (rea_refl _ _ _)
 exact this hi
def stepK (V : List Nat) (p : Nat × Nat) : List Nat := (V.set p.1 (min (V.getD p.1 0) (V.getD p.2 0))).set p.2 (min (V.getD p.1 0) (V.getD p.2 0))
def iterK (P : List (Nat × Nat)) (V : List Nat) : Nat → List Nat
 | 0 => V
 | r + 1 => P.foldl stepK (iterK P V r)
def kin (n : Nat) (P : List (Nat × Nat)) : List Nat := iterK P (List.range n) n
theorem stepK_len (V : List Nat) (p : Nat × Nat) : (stepK V p).length = V.length := by simp [stepK]
theorem foldK_len (L : List (Nat × Nat)) : ∀ V : List Nat, (L.foldl stepK V).length = V.length := by
 induction L with
 | nil => intro U; rfl
 | cons p L ih => intro U; rw [List.foldl_cons, ih, stepK_len]
theorem iterK_len (P : List (Nat × Nat)) (V : List Nat) (r : Nat) : (iterK P V r).length = V.length := by
 induction r with
 | zero => rfl
 | succ r ih => rw [iterK, foldK_len, ih]
theorem stepK_get {V : List Nat} {p : Nat × Nat} (h1 : p.1 < V.length) (h2 : p.2 < V.length) (i : Nat) : (stepK V p).getD i 0 = if i = p.1 ∨ i = p.2 then min (V.getD p.1 0) (V.getD p.2 0) else V.getD i 0 := by
 rw [stepK, getD_set _ _ (by simpa using h2)]
 by_cases hi : i = p.2
 ·rw [if_pos hi, if_pos (.inr hi)]
 ·rw [if_neg hi, getD_set _ _ h1]
  by_cases hj : i = p.1
  ·rw [if_pos hj, if_pos (.inl hj)]
  ·rw [if_neg hj, if_neg (by rintro (h | h) <;> contradiction)]
def SndK (n : Nat) (P : List (Nat × Nat)) (V : List Nat) : Prop := ∀ i, i < n → V.getD i 0 < n ∧ rea (both P) n i (V.getD i 0) = true
theorem sndK_step {n : Nat} {P : List (Nat × Nat)} (hP : InR n P) {V : List Nat} (hV : V.length = n) (h : SndK n P V) {p : Nat × Nat} (hp : p ∈ P) : SndK n P (stepK V p) := by
 intro i hi
 obtain ⟨p1, p2⟩ := hP p hp
 rw [stepK_get (by omega) (by omega)]
 obtain ⟨a1, a2⟩ := h p.1 p1
 obtain ⟨b1, b2⟩ := h p.2 p2
 have hpb : p ∈ both P := mem_both.2 (.inl hp)
 by_cases hc : i = p.1 ∨ i = p.2
 ·rw [if_pos hc]
  rcases Nat.le_total (V.getD p.1 0) (V.getD p.2 0) with hle | hle
  ·rw [Nat.min_eq_left hle]
   refine ⟨a1, ?_⟩
   rcases hc with rfl | rfl
   ·exact a2
   ·exact rea_step (both_in hP) a1 (both_swap hpb) a2
  ·rw [Nat.min_eq_right hle]
   refine ⟨b1, ?_⟩
   rcases hc with rfl | rfl
   ·exact rea_step (both_in hP) b1 hpb b2
   ·exact b2
 ·rw [if_neg hc]; exact h i hi
theorem sndK_fold {n : Nat} {P : List (Nat × Nat)} (hP : InR n P) : ∀ (L : List (Nat × Nat)), (∀ p ∈ L, p ∈ P) → ∀ V : List Nat, V.length = n → SndK n P V → SndK n P (L.foldl stepK V)
 | [], _, V, _, h => h
 | p :: L, hL, V, hV, h => sndK_fold hP L (fun q hq => hL q (by simp [hq])) _ (by rw [stepK_len, hV]) (sndK_step hP hV h (hL p (by simp)))
theorem sndK_iter {n : Nat} {P : List (Nat × Nat)} (hP : InR n P) (r : Nat) : SndK n P (iterK P (List.range n) r) := by
 induction r with
 | zero =>
  intro i hi
  have : (List.range n).getD i 0 = i := by simp [List.getD, hi]
  rw [iterK, this]
  exact ⟨hi, rea_refl _ _ _⟩
 | succ r ih => exact sndK_fold hP P (fun _ h => h) _ (by rw [iterK_len]; simp) ih
theorem foldK_mono {n : Nat} : ∀ (L : List (Nat × Nat)), InR n L → ∀ (V : List Nat), V.length = n → ∀ i, (L.foldl stepK V).getD i 0 ≤ V.getD i 0
 | [], _, _, _, _ => Nat.le_refl _
 | p :: L, hL, V, hV, i => by
  refine Nat.le_trans (foldK_mono L (fun q hq => hL q (by simp [hq])) _ (by rw [stepK_len, hV]) i) ?_
  obtain ⟨p1, p2⟩ := hL p (by simp)
  rw [stepK_get (by omega) (by omega)]
  by_cases hc : i = p.1 ∨ i = p.2
  ·rw [if_pos hc]
   rcases hc with rfl | rfl <;> omega
  ·rw [if_neg hc]; exact Nat.le_refl _
theorem foldK_hit {n : Nat} : ∀ (L : List (Nat × Nat)), InR n L → ∀ (V : List Nat), V.length = n → ∀ p ∈ L, (L.foldl stepK V).getD p.1 0 ≤ V.getD p.2 0 ∧ (L.foldl stepK V).getD p.2 0 ≤ V.getD p.1 0
 | [], _, _, _, p, hp => by simp at hp
 | q :: L, hL, V, hV, p, hp => by
  have hL' : InR n L := fun x hx => hL x (by simp [hx])
  obtain ⟨q1, q2⟩ := hL q (by simp)
  have hlen : (stepK V q).length = n := by rw [stepK_len, hV]
  rcases List.mem_cons.1 hp with rfl | hp'
  ·have g1 := foldK_mono L hL' _ hlen p.1
   have g2 := foldK_mono L hL' _ hlen p.2
   rw [stepK_get (by omega) (by omega), if_pos (.inl rfl)] at g1
   rw [stepK_get (by omega) (by omega), if_pos (.inr rfl)] at g2
   rw [List.foldl_cons]
   omega
  ·have g := foldK_hit L hL' _ hlen p hp'
   have g1 := foldK_mono [q] (fun x hx => by simp at hx; subst hx; exact ⟨q1, q2⟩) V hV p.1
   have g2 := foldK_mono [q] (fun x hx => by simp at hx; subst hx; exact ⟨q1, q2⟩) V hV p.2
   simp only [List.foldl_cons, List.foldl_nil] at g1 g2
   rw [List.foldl_cons]
   omega
theorem cmpK_iter {n : Nat} {P : List (Nat × Nat)} (hP : InR n P) (j : Nat) : ∀ (r i : Nat), i < n → nl (both P) j r i = true → (iterK P (List.range n) r).getD i 0 ≤ j
 | 0, i, hi, h => by
  simp [nl] at h
  subst h
  simp [iterK, List.getD, hi]
 | r + 1, i, hi, h => by
  have hl : (iterK P (List.range n) r).length = n := by rw [iterK_len]; simp
  rcases nl_succ.1 h with h' | ⟨p, hp, rfl, h'⟩
  ·exact Nat.le_trans (foldK_mono P hP _ hl _) (cmpK_iter hP j r i hi h')
  ·have hp2 := (both_in hP p hp).2
   have ih := cmpK_iter hP j r p.2 hp2 h'
   rcases mem_both.1 hp with hm | hm
   ·exact Nat.le_trans (foldK_hit P hP _ hl p hm).1 ih
   ·exact Nat.le_trans (foldK_hit P hP _ hl _ hm).2 ih
theorem kin_len (n : Nat) (P : List (Nat × Nat)) : (kin n P).length = n := by rw [kin, iterK_len]; simp
theorem kin_spec {n : Nat} {P : List (Nat × Nat)} (hP : InR n P) {i : Nat} (hi : i < n) :
  (kin n P).getD i 0 < n ∧ rea (both P) n i ((kin n P).getD i 0) = true ∧ ∀ j, rea (both P) n i j = true → (kin n P).getD i 0 ≤ j :=
 ⟨(sndK_iter hP n i hi).1, (sndK_iter hP n i hi).2, fun j h => cmpK_iter hP j n i hi h⟩
def midK (n : Nat) (P : List (Nat × Nat)) (r k : Nat) : List Nat := (P.take k).foldl stepK (iterK P (List.range n) r)
theorem midK_len (n : Nat) (P : List (Nat × Nat)) (r k : Nat) : (midK n P r k).length = n := by rw [midK, foldK_len, iterK_len]; simp
theorem midK_zero (n : Nat) (P : List (Nat × Nat)) (r : Nat) : midK n P r 0 = iterK P (List.range n) r := by simp [midK]
theorem midK_succ (n : Nat) (P : List (Nat × Nat)) (r k : Nat) (h : k < P.length) : midK n P r (k + 1) = stepK (midK n P r k) (P.getD k (0, 0)) := by
 rw [midK, List.take_succ_eq_append_getElem h, List.foldl_append]
 simp [midK, List.getD, List.getElem?_eq_getElem h]
theorem midK_last (n : Nat) (P : List (Nat × Nat)) (r : Nat) : midK n P r P.length = iterK P (List.range n) (r + 1) := by simp [midK, iterK]
theorem midK_lt {n : Nat} {P : List (Nat × Nat)} (hP : InR n P) (r k i : Nat) (hi : i < n) : (midK n P r k).getD i 0 < n :=
 (sndK_fold hP (P.take k) (fun p hp => List.mem_of_mem_take hp) _ (by rw [iterK_len]; simp) (sndK_iter hP r) i hi).1
/-! ### sets given by a test -/
end Go.Proofs.YtkkmjaggebjcbaaGreat.sortm
