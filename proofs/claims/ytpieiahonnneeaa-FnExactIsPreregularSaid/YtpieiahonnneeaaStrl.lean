/-
  CONTRACTS OF THE LAWS' OWN FUNCTIONS ON []string.
-/
import Derived.Test.YtpieiahonnneeaaSplit
import Derived.Test.YtpieiahonnneeaaDec
import Derived.Deep.RegionHeld3
import Derived.Deep.QuietTactic
import Derived.BigQuiet
namespace Go.Proofs.Ytpieiahonnneeaa.strl
open Go.ChangeShapes Go.WideShapes Go.ChangeAt Go.RowKit
open mem dec split

theorem ssv_get (P : List (List UInt8)) (k : Nat) (h : k < P.length) : (ssv P).getD k undef = .string (bstr (P.getD k [])) := by
  simp [ssv, List.getD, List.getElem?_map, List.getElem?_eq_getElem h]

theorem take_get (P : List (List UInt8)) (k : Nat) (h : k < P.length) : P.take (k + 1) = P.take k ++ [P.getD k []] := by
  rw [List.take_succ_eq_append_getElem h]; simp [List.getD, List.getElem?_eq_getElem h]
theorem keep_call {wr w0 w1 : World} {p : Addr} {x : Value} (h : w0.cell? p = some x ∧ Below wr.heap.size wr w0) (hp : p.block < wr.heap.size) (hb : Below w0.heap.size w0 w1) :
    w1.cell? p = some x ∧ Below wr.heap.size wr w1 :=
  ⟨(hb.cell (by have := h.2.size; omega)).trans h.1, h.2.trans (hb.mono h.2.size)⟩

/-- laws.eqStringS -/
theorem eq_any (P Q : List (List UInt8)) (va vb : Value) (w : World) (ha : Has w va (ssv P)) (hb : Has w vb (ssv Q)) :
    Calls Try.prog 42 #[va, vb] w fun e w' => e = .returned (.bool (decide (P = Q))) ∧ Below w.heap.size w w' := by
  obtain ⟨A, ca, rfl, ha⟩ := ha.shape (ssv_len P)
  obtain ⟨B, cb, rfl, hb⟩ := hb.shape (ssv_len Q)
  have hla := ha.len.2
  have hlb := hb.len.2
  by_cases hl : P.length = Q.length
  · rw [← hl] at hb ⊢
    go_enter Try.func42, Try.ntmps42
    go_wp2
    go_loopw [5] (fun i wr => ∃ k : Nat, k ≤ P.length ∧ i = .int .i64 k ∧ P.take k = Q.take k ∧ Below w.heap.size w wr) (fun i _ => P.length - (intOf i).toNat)
    case atStart => exact ⟨0, Nat.zero_le _, rfl, rfl, Below.refl _ _⟩
    case round =>
      obtain ⟨k, hk, rfl, htk, hbel⟩ := hrel
      have HT := Lib.hid htk
      clear htk
      by_cases hlt : k < P.length
      · obtain ⟨ga, oa, rfl, hga, hca⟩ := ha.cellAt hlt
        obtain ⟨gb, ob, rfl, hgb, hcb⟩ := hb.cellAt hlt
        rw [ssv_get P k hlt, ← hbel.cell (p := ⟨ga, oa + k, none⟩) hga] at hca
        rw [ssv_get Q k (by omega), ← hbel.cell (p := ⟨gb, ob + k, none⟩) hgb] at hcb
        obtain ⟨x, hx⟩ : ∃ x, x = P.getD k [] := ⟨_, rfl⟩
        obtain ⟨y, hy⟩ : ∃ y, y = Q.getD k [] := ⟨_, rfl⟩
        rw [← hx] at hca
        rw [← hy] at hcb
        have HX := Lib.hid hx
        have HY := Lib.hid hy
        have HL := Lib.hid hl
        clear hx hy hl ha hb
        by_cases hxy : x = y
        · subst hxy
          have HK : Hid (P.take (k + 1) = Q.take (k + 1)) := Lib.hid (by rw [take_get P k hlt, take_get Q k (by have := HL.out; omega), HT.out, ← HX.out, ← HY.out])
          go_wp2
          go_quiet (fail)
          go_wp2
          go_roundw
          case rel => exact ⟨k + 1, by omega, by go_num, HK.out, by first | exact hbel | exact hbel.drew | exact below_drewN hbel _⟩
          case measure => simp [intOf]; omega
        · have hne : ((bstr x).toList == (bstr y).toList) = false := by rw [bstr_eq]; simpa using hxy
          have HR : Hid (decide (P = Q) = false) := Lib.hid (by
            simp only [decide_eq_false_iff_not]
            intro e
            exact hxy (by rw [HX.out, HY.out, e]))
          clear hxy
          go_wp2
          go_quiet (fail)
          go_wp2
          go_ret
          exact ⟨ret_bool HR.out.symm, by first | exact hbel | exact hbel.drew | exact below_drewN hbel _⟩
      · obtain rfl : k = P.length := by omega
        have HR : Hid (decide (P = Q) = true) := Lib.hid (by
          have := HT.out
          rw [List.take_length, hl, List.take_length] at this
          simpa using this)
        clear hl
        go_wp2
        go_ret
        exact ⟨ret_bool HR.out.symm, hbel⟩
  · have hne : decide (P = Q) = false := by simp; intro h; exact hl (by rw [h])
    have hlen : ((P.length : Int) != (Q.length : Int)) = true := by simp; omega
    have HNE := Lib.hid hne
    clear hne
    go_enter Try.func42, Try.ntmps42
    go_wp2
    go_ret
    exact ⟨ret_bool HNE.out.symm, Below.refl _ _⟩

/-- the marks k, k + 1, .. -/
def marks (k n : Nat) : List (List UInt8) := (List.range n).map fun i => 109 :: dig (k + i)
theorem marks_len (k n : Nat) : (marks k n).length = n := by simp [marks]
theorem marks_get (k n i : Nat) (h : i < n) : (marks k n).getD i [] = 109 :: dig (k + i) := by
  simp [marks, List.getD, h]

end Go.Proofs.Ytpieiahonnneeaa.strl
