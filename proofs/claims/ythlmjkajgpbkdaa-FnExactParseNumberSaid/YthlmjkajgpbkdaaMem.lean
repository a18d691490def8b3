/-
  SMALL LAWS ON MEMORY AND STRINGS, over any program.
-/
import Derived.Test.YthlmjkajgpbkdaaRows
import Derived.WalkKit
import Derived.WalkLawsBesides
import Derived.WalkSpells
import Derived.ProofKit
import Derived.Lib.Hide
namespace Go.Proofs.Ythlmjkajgpbkdaa.mem
open Go.RowKit

theorem ret_int {k : IntKind} {a b : Int} (h : a = b) : Ending.returned (.int k a) = .returned (.int k b) := by rw [h]
theorem ret_str {a b : ByteArray} (h : a = b) : Ending.returned (.string a) = .returned (.string b) := by rw [h]

/-- a string of these bytes -/
def bstr (l : List UInt8) : ByteArray := ⟨l.toArray⟩
/-- the cells of a list of bytes -/
def u8s (l : List UInt8) : List Value := l.map fun b => .int .u8 b.toNat

theorem bstr_size (l : List UInt8) : (bstr l).size = l.length := by simp [bstr, ByteArray.size]
theorem bstr_toList (l : List UInt8) : (bstr l).data.toList = l := by simp [bstr]
theorem bstr_data (s : ByteArray) : bstr s.data.toList = s := by cases s; simp [bstr]
theorem bstr_inj {a b : List UInt8} (h : bstr a = bstr b) : a = b := by simpa [bstr] using h
theorem bstr_append (a b : List UInt8) : bstr a ++ bstr b = bstr (a ++ b) := by
  apply ByteArray.ext
  simp [bstr]

theorem fold_push (l : List UInt8) : ∀ s : ByteArray, (l.map fun b => (b.toNat : Int)).foldl (fun r n => r.push (UInt8.ofNat n.toNat)) s = s ++ bstr l := by
  induction l with
  | nil => intro s; apply ByteArray.ext; simp [bstr]
  | cons b l ih =>
    intro s
    simp only [List.map_cons, List.foldl_cons]
    rw [ih]
    apply ByteArray.ext
    simp [bstr]

theorem run_str {P : Program} {w : World} {src dst e : TypeId} (hs : P.underlying src = some (.slice e)) (he : P.underlying e = some (.int .u8)) (hd : P.underlying dst = some .string)
    (a : Addr) (l : List UInt8) {n cap : Nat} (hl : l.length = n) (h : ∀ j u, (u8s l)[j]? = some u → w.cell? (a.add j) = some u) :
    (convert src dst (.slice (some a) n cap)).run P w = .ok (.string (bstr l)) w := by
  rw [run_convert_bytes_string w src dst e (some a) n cap hs he hd]
  have hlen : (u8s l).length = n := by simp [u8s, hl]
  have hload := run_loadCells_list (P := P) (w := w) a (u8s l) h
  rw [hlen] at hload
  rw [run_bytesToString w a n cap (l.map fun b => (b.toNat : Int)) (by rw [hload]; simp [u8s])]
  rw [fold_push]
  congr 2

theorem run_str_nil {P : Program} {w : World} {src dst e : TypeId} (hs : P.underlying src = some (.slice e)) (he : P.underlying e = some (.int .u8)) (hd : P.underlying dst = some .string) {cap : Nat} :
    (convert src dst (.slice none 0 cap)).run P w = .ok (.string (bstr [])) w := by
  rw [run_convert_bytes_string w src dst e none 0 cap hs he hd]
  rfl

/-- an owned row of bytes as a string -/
theorem run_str_own {P : Program} {w : World} {src dst e t : TypeId} (hs : P.underlying src = some (.slice e)) (he : P.underlying e = some (.int .u8)) (hd : P.underlying dst = some .string)
    {base g n cap : Nat} {l : List UInt8} (hown : w.ownsRow base t 1 (.slice (some ⟨g, 0, none⟩) n cap) n (u8s l)) :
    (convert src dst (.slice (some ⟨g, 0, none⟩) n cap)).run P w = .ok (.string (bstr l)) w := by
  have hl : l.length = n := by have := hown.1; simpa [u8s] using this
  refine run_str hs he hd _ l hl fun j u hu => ?_
  have hj : j < n := by have := (List.getElem?_eq_some_iff.1 hu).1; simpa [u8s, hl] using this
  rw [← hu]
  have := hown.cellAt j (by omega)
  rw [Addr.add_lit, Nat.zero_add]
  rw [this]
theorem setCell_own {w : World} {base g n cap size : Nat} {e : TypeId} {xs : List Value} (h : w.ownsRow base e size (.slice (some ⟨g, 0, none⟩) n cap) n xs) (j : Nat) (u : Value) :
    (w.setCell ⟨g, j, none⟩ u).ownsRow base e size (.slice (some ⟨g, 0, none⟩) n cap) n (xs.set j u) := (h.stored j u).1
theorem bstr_one (b : UInt8) : bstr [b] = { data := #[b] } := rfl
theorem bstr_cons (b : UInt8) (l : List UInt8) : ({ data := #[b] } : ByteArray) ++ bstr l = bstr (b :: l) := by
  rw [← bstr_one, bstr_append]; rfl
/-- string([]byte{b}), b just laid in a block of its own -/
theorem run_str_one {P : Program} (w : World) {src dst e t : TypeId} (hs : P.underlying src = some (.slice e)) (he : P.underlying e = some (.int .u8)) (hd : P.underlying dst = some .string)
    (c : Int) (b : UInt8) (hc : c = (b.toNat : Int)) :
    (convert src dst (.slice (some ⟨w.heap.size, 0, none⟩) 1 1)).run P (w.alloc (.cells #[.int .u8 c] t)) = .ok (.string (bstr [b])) (w.alloc (.cells #[.int .u8 c] t)) := by
  subst hc
  refine run_str hs he hd _ [b] rfl fun j u hu => ?_
  match j, hu with
  | 0, hu =>
    simp [u8s] at hu
    subst hu
    simp [Addr.add]
theorem run_index_bstr {P : Program} (w : World) {t : TypeId} {k : IntKind} (h : P.underlying t = some .string) {l : List UInt8} {i : Nat} (hi : i < l.length) :
    (Instr.index t (.string (bstr l)) (.int k (i : Int))).run P w = .ok (.int .u8 ((l.getD i 0).toNat : Int)) w := by
  rw [run_index_string w t _ k _ h]
  have h1 : i < (bstr l).size := by rw [bstr_size]; exact hi
  simp [h1, hi]
  rfl
theorem bstr_extract (l : List UInt8) (a b : Nat) : (bstr l).extract a b = bstr ((l.take b).drop a) := by
  apply ByteArray.ext
  simp [bstr, List.drop_take]
theorem bstr_eq {a b : List UInt8} : ((bstr a).toList == (bstr b).toList) = decide (a = b) := by
  have h : ∀ l, (bstr l).toList = l := fun l => by rw [ByteArray.toList_eq]; exact bstr_toList l
  rw [h, h, Bool.eq_iff_iff]; simp
theorem made_u8 (n : Nat) : (madeCells #[Value.int .u8 0] n).toList = u8s (List.replicate n 0) := by
  simp [u8s, madeCells, Nat.mod_one, List.map_const']
end Go.Proofs.Ythlmjkajgpbkdaa.mem
