/-
  THE MODEL's FUNCTIONS OF SIGNATURES: FindOp, ArityOf, IsFreeSignature.
-/
import Derived.Test.YtjejdcehlckfhaaGreatSigb
namespace Go.Proofs.YtjejdcehlckfhaaGreat.sigc
open Go.ChangeShapes Go.WideShapes Go.ChangeAt Go.RowKit
open mem split strl join subs sortn setm sets sortm sortp sorti sortf sortu sorts sortg rowl sigm sigs sigi sigj sigl siga sigb

theorem unt_nonneg {P : List (List UInt8)} {Q : List (Int × Int)} {O : List OpM} (h : sigOk P Q O = true) : ∀ o ∈ O, 0 ≤ o.unt := by
  intro o ho
  have := (sigOk_parts h).2.2.2.2 o ho
  simp only [axOk, unitOk, Bool.and_eq_true, Bool.or_eq_true, decide_eq_true_eq] at this
  rcases this.2 with h1 | h1
  · omega
  · exact h1.1.1.1
theorem freeB_eq {P : List (List UInt8)} {Q : List (Int × Int)} {O : List OpM} (h : ∀ k, k < O.length → (O.getD k default).ass = false ∧ (O.getD k default).unt ≤ 0) : freeB P Q O = sigOk P Q O := by
  rw [freeB]
  cases hs : sigOk P Q O with
  | false => rfl
  | true =>
    have : O.all noAx = true := by
      rw [List.all_eq_true]
      refine all_get (f := noAx) (fun k hk => ?_)
      have h1 := h k hk
      have h2 := unt_nonneg hs (O.getD k default) (by rw [List.getD_eq_getElem?_getD, List.getElem?_eq_getElem hk]; exact List.getElem_mem hk)
      simp only [noAx, h1.1, Bool.not_false, Bool.true_and, decide_eq_true_eq]; omega
    rw [this]; rfl
theorem freeB_no {P : List (List UInt8)} {Q : List (Int × Int)} {O : List OpM} {k : Nat} (hk : k < O.length) (h : (O.getD k default).ass = true ∨ 0 < (O.getD k default).unt) : freeB P Q O = false := by
  have : O.all noAx = false := by
    rw [List.all_eq_false]
    refine ⟨O[k], List.getElem_mem hk, ?_⟩
    have e : O.getD k default = O[k] := by simp [List.getD, List.getElem?_eq_getElem hk]
    rw [e] at h
    rcases h with h | h
    · simp [noAx, h]
    · have : ¬ O[k].unt = 0 := by omega
      simp [noAx, this]
  rw [freeB, this]; simp
end Go.Proofs.YtjejdcehlckfhaaGreat.sigc
