/-
  CONTRACTS OF THE LAWS' OWN FUNCTIONS ON []string.
-/
import Derived.Test.YtiilamngcoegiaaSplit
import Derived.Test.YtiilamngcoegiaaDec
import Derived.Deep.RegionHeld3
import Derived.Deep.QuietTactic
import Derived.BigQuiet
namespace Go.Proofs.Ytiilamngcoegiaa.strl
open Go.ChangeShapes Go.WideShapes Go.ChangeAt Go.RowKit
open mem dec split

theorem ssv_get (P : List (List UInt8)) (k : Nat) (h : k < P.length) : (ssv P).getD k undef = .string (bstr (P.getD k [])) := by
  simp [ssv, List.getD, List.getElem?_map, List.getElem?_eq_getElem h]

theorem take_get (P : List (List UInt8)) (k : Nat) (h : k < P.length) : P.take (k + 1) = P.take k ++ [P.getD k []] := by
  rw [List.take_succ_eq_append_getElem h]; simp [List.getD, List.getElem?_eq_getElem h]
theorem keep_call {wr w0 w1 : World} {p : Addr} {x : Value} (h : w0.cell? p = some x ∧ Below wr.heap.size wr w0) (hp : p.block < wr.heap.size) (hb : Below w0.heap.size w0 w1) :
    w1.cell? p = some x ∧ Below wr.heap.size wr w1 :=
  ⟨(hb.cell (by have := h.2.size; omega)).trans h.1, h.2.trans (hb.mono h.2.size)⟩

set_option maxRecDepth 20000 in
/-- laws.markText -/
theorem mark_any (k : Nat) (hk : k ≤ 9223372036854775807) (w : World) :
    Calls Try.prog 51 #[.int .i64 k] w fun e w' => e = .returned (.string (bstr (109 :: dig k))) ∧ Below w.heap.size w w' := by
  by_cases h0 : k = 0
  · subst h0
    have e0 : bstr (109 :: dig 0) = { data := #[109, 48] } := by simp [dig_lt, dg, bstr]
    go_enter Try.func51, Try.ntmps51
    go_wp2
    go_ret
    exact ⟨ret_str e0.symm, Below.refl _ _⟩
  · go_enter Try.func51, Try.ntmps51
    have h20 : (dig k).length ≤ 20 := dig_le64 (by omega)
    go_wp2
    go_loopw [0, 3] (fun v s wr => ∃ (m : Nat) (o : List UInt8), m ≤ 9223372036854775807 ∧ v = .int .i64 (m : Int) ∧ s = .string (bstr o) ∧ Tail k m o ∧ Below w.heap.size w wr)
      (fun v _ _ => (intOf v).natAbs)
    case atStart => exact ⟨k, [], by omega, rfl, rfl, tail_start h0, Below.refl _ _⟩
    case round =>
      obtain ⟨m, o, hm, rfl, rfl, htail, hbel⟩ := hrel
      have hol := Nat.le_trans (tail_len htail) h20
      have hsz : (bstr o).size ≤ 20 := by rw [bstr_size]; exact hol
      by_cases hc : m = 0
      · subst hc
        have H : Hid (o = dig k) := Lib.hid (htail.1 rfl)
        go_wp2
        go_ret
        exact ⟨ret_str (by rw [← H.out, bstr_cons]), hbel⟩
      · have H := Lib.hid (tail_step htail (by omega))
        have hcv := run_str_one (P := Try.prog) wr (t := 5) (dst := 9) Try.underlying92 Try.underlying5 Try.underlying9 (48 + (m : Int) % 10) (dg m) (by rw [dg_nat])
        have hs2 : (bstr [dg m]).size ≤ 1 := Nat.le_refl _
        clear htail hol
        go_wp2
        go_roundw
        case rel => exact ⟨m / 10, _, by omega, by go_num, by rw [bstr_append], H.out, hbel.alloc hbel.size _⟩
        case measure => simp [intOf]; omega

/-- the marks k, k + 1, .. -/
def marks (k n : Nat) : List (List UInt8) := (List.range n).map fun i => 109 :: dig (k + i)
theorem marks_len (k n : Nat) : (marks k n).length = n := by simp [marks]
theorem marks_get (k n i : Nat) (h : i < n) : (marks k n).getD i [] = 109 :: dig (k + i) := by
  simp [marks, List.getD, h]

end Go.Proofs.Ytiilamngcoegiaa.strl
