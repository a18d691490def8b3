/-
  THE PROGRAM's FUNCTIONS OF SIGNATURES: FindOp, ArityOf, IsFreeSignature.
-/
import Derived.Test.YtjejdcehlckfhaaGreatSigv
namespace Go.Proofs.YtjejdcehlckfhaaGreat.sigz
open Go.ChangeShapes Go.WideShapes Go.ChangeAt Go.RowKit
open mem split strl join subs sortn setm sets sortm sortp sorti sortf rowl sigm sigs sigi sigj sigk sigq sigr sigv

/-- slices.Index, at strings: the first index -/
theorem index_at (P : List (List UInt8)) (x : List UInt8) (v : Value) (w : World) (h : Has w v (ssv P)) :
    Calls Tryz.prog 212 #[v, .string (bstr x)] w fun e w' => e = .returned (.int .i64 (sigm.opAt P x)) ∧ w = w' := by
  obtain ⟨A, c, rfl, h⟩ := h.shape (ssv_len P)
  have hl := h.len.2
  have HH := Lib.hid h
  obtain ⟨R, hR⟩ : ∃ R, R = sigm.opAt P x := ⟨_, rfl⟩
  rw [← hR]
  have HR := Lib.hid hR
  clear h hR
  go_enter Tryz.func212, Tryz.ntmps212
  go_wp2
  go_loop [5, 8] (fun u i => ∃ k : Nat, k ≤ P.length ∧ i = .int .i64 k ∧ Hid (x ∉ P.take k)) (fun _ i => P.length - (intOf i).toNat)
  case atStart => exact ⟨0, Nat.zero_le _, rfl, Lib.hid (by simp)⟩
  case round =>
    obtain ⟨k, hk, rfl, HX⟩ := hrel
    by_cases hlt : k < P.length
    · obtain ⟨g, o, rfl, hg, hcell⟩ := HH.out.cellAt hlt
      rw [ssv_get P k hlt] at hcell
      obtain ⟨y, hy⟩ : ∃ y, y = P.getD k [] := ⟨_, rfl⟩
      rw [← hy] at hcell
      by_cases hxy : x = y
      · subst hxy
        have HM : Hid (R = (k : Int)) := Lib.hid (by rw [HR.out]; exact opAt_hit hlt HX.out hy.symm)
        clear hy
        go_wp2
        go_ret
        exact ⟨ret_int HM.out.symm, rfl⟩
      · have hne : ((bstr x).toList == (bstr y).toList) = false := by rw [bstr_eq]; simpa using hxy
        have HX2 : Hid (x ∉ P.take (k + 1)) := Lib.hid (take_not hlt HX.out (by rw [← hy]; exact fun e => hxy e.symm))
        clear hxy hy
        go_wp2
        go_round
        case rel => exact ⟨k + 1, by omega, by go_num, HX2⟩
        case measure => simp [intOf]; omega
    · obtain rfl : k = P.length := by omega
      have HM : Hid (R = -1) := Lib.hid (by rw [HR.out]; have := HX.out; rw [List.take_length] at this; exact opAt_miss this)
      go_wp2
      go_ret
      exact ⟨ret_int HM.out.symm, rfl⟩
end Go.Proofs.YtjejdcehlckfhaaGreat.sigz
