/-
  PLAIN MATHEMATICS OF SPLITTING, and the contracts of the two SplitByte.
-/
import Derived.Test.YtiilamngcoegiaaMem
import Derived.OwnWalk
namespace Go.Proofs.Ytiilamngcoegiaa.split
open Go.ChangeShapes Go.WideShapes Go.ChangeAt Go.RowKit
open mem

/-- x is laid ahead of the first part -/
def pre (x : List UInt8) : List (List UInt8) → List (List UInt8)
  | [] => [x]
  | h :: r => (x ++ h) :: r
def split (c : UInt8) : List UInt8 → List (List UInt8)
  | [] => [[]]
  | b :: t => if b = c then [] :: split c t else pre [b] (split c t)

theorem pre_nil (ls : List (List UInt8)) (h : ls ≠ []) : pre [] ls = ls := by cases ls with | nil => exact absurd rfl h | cons a r => rfl
theorem pre_ne (x : List UInt8) (ls : List (List UInt8)) : pre x ls ≠ [] := by cases ls <;> simp [pre]
theorem pre_pre (x y : List UInt8) (ls : List (List UInt8)) : pre x (pre y ls) = pre (x ++ y) ls := by cases ls <;> simp [pre]
theorem split_ne (c : UInt8) (l : List UInt8) : split c l ≠ [] := by
  cases l with
  | nil => simp [split]
  | cons b t => unfold split; split
                · simp
                · exact pre_ne _ _

theorem pre_len (x : List UInt8) (ls : List (List UInt8)) : (pre x ls).length ≤ ls.length + (if ls = [] then 1 else 0) := by cases ls <;> simp [pre]
theorem split_le (c : UInt8) (l : List UInt8) : (split c l).length ≤ l.length + 1 := by
  induction l with
  | nil => simp [split]
  | cons b t ih =>
    unfold split
    split
    · simp; exact ih
    · have := pre_len [b] (split c t)
      rw [if_neg (split_ne c t)] at this
      simp; omega

/-- P: the parts so far; s: where the next one begins; i: what has been looked at -/
def Inv (c : UInt8) (l : List UInt8) (P : List (List UInt8)) (s i : Nat) : Prop := s ≤ i ∧ P.length ≤ i ∧ split c l = P ++ pre ((l.take i).drop s) (split c (l.drop i))
theorem inv_start (c : UInt8) (l : List UInt8) : Inv c l [] 0 0 := ⟨Nat.le_refl _, Nat.le_refl _, by simp [pre_nil _ (split_ne c l)]⟩
theorem inv_hit {c : UInt8} {l : List UInt8} {P : List (List UInt8)} {s i : Nat} (h : Inv c l P s i) (hi : i < l.length) (hb : l.getD i 0 = c) : Inv c l (P ++ [(l.take i).drop s]) (i + 1) (i + 1) := by
  obtain ⟨h1, h2, h3⟩ := h
  refine ⟨Nat.le_refl _, by simp; omega, ?_⟩
  rw [h3]
  have hd : l.drop i = c :: l.drop (i + 1) := by
    rw [List.drop_eq_getElem_cons hi, ← hb]; simp [List.getD, List.getElem?_eq_getElem hi]
  rw [hd]
  rw [show split c (c :: l.drop (i + 1)) = [] :: split c (l.drop (i + 1)) by simp [split]]
  rw [List.drop_take_self, pre_nil _ (split_ne _ _)]
  simp [pre]
theorem inv_miss {c : UInt8} {l : List UInt8} {P : List (List UInt8)} {s i : Nat} (h : Inv c l P s i) (hi : i < l.length) (hb : l.getD i 0 ≠ c) : Inv c l P s (i + 1) := by
  obtain ⟨h1, h2, h3⟩ := h
  refine ⟨by omega, by omega, ?_⟩
  rw [h3]
  have hg : l.getD i 0 = l[i] := by simp [List.getD, List.getElem?_eq_getElem hi]
  rw [hg] at hb
  rw [List.drop_eq_getElem_cons hi]
  simp only [split, if_neg hb]
  rw [pre_pre, List.take_succ_eq_append_getElem hi, List.drop_append_of_le_length (by rw [List.length_take]; omega)]
theorem inv_last {c : UInt8} {l : List UInt8} {P : List (List UInt8)} {s : Nat} (h : Inv c l P s l.length) : split c l = P ++ [l.drop s] := by
  have h3 := h.2.2
  simpa [split, pre] using h3

def ssv (P : List (List UInt8)) : List Value := P.map fun x => .string (bstr x)
theorem ssv_append (P Q : List (List UInt8)) : ssv (P ++ Q) = ssv P ++ ssv Q := by simp [ssv]
theorem ssv_len (P : List (List UInt8)) : (ssv P).length = P.length := by simp [ssv]

theorem info_str : (Try.prog.info? 9).map (fun i => (i.zero, i.size, i.bytes)) = some (some (.string .empty), 1, 16) := by kernel_rfl

end Go.Proofs.Ytiilamngcoegiaa.split
