/-
  CONTRACTS OF THE LAWS' OWN FUNCTIONS ON []string.
-/
import Derived.Test.YtjejdcehlckfhaaGreatSplit
import Derived.Test.YtjejdcehlckfhaaGreatDec
import Derived.Deep.RegionHeld3
import Derived.Deep.QuietTactic
import Derived.BigQuiet
namespace Go.Proofs.YtjejdcehlckfhaaGreat.strl
open Go.ChangeShapes Go.WideShapes Go.ChangeAt Go.RowKit
open mem dec split

theorem ssv_get (P : List (List UInt8)) (k : Nat) (h : k < P.length) : (ssv P).getD k undef = .string (bstr (P.getD k [])) := by
  simp [ssv, List.getD, List.getElem?_map, List.getElem?_eq_getElem h]

theorem take_get (P : List (List UInt8)) (k : Nat) (h : k < P.length) : P.take (k + 1) = P.take k ++ [P.getD k []] := by
  rw [List.take_succ_eq_append_getElem h]; simp [List.getD, List.getElem?_eq_getElem h]
theorem keep_call {wr w0 w1 : World} {p : Addr} {x : Value} (h : w0.cell? p = some x ∧ Below wr.heap.size wr w0) (hp : p.block < wr.heap.size) (hb : Below w0.heap.size w0 w1) :
    w1.cell? p = some x ∧ Below wr.heap.size wr w1 :=
  ⟨(hb.cell (by have := h.2.size; omega)).trans h.1, h.2.trans (hb.mono h.2.size)⟩

/-- laws.eqStringS -/
theorem eq_any (P Q : List (List UInt8)) (va vb : Value) (w : World) (ha : Has w va (ssv P)) (hb : Has w vb (ssv Q)) :
    Calls Tryz.prog 87 #[va, vb] w fun e w' => e = .returned (.bool (decide (P = Q))) ∧ Below w.heap.size w w' := by
  obtain ⟨A, ca, rfl, ha⟩ := ha.shape (ssv_len P)
  obtain ⟨B, cb, rfl, hb⟩ := hb.shape (ssv_len Q)
  have hla := ha.len.2
  have hlb := hb.len.2
  by_cases hl : P.length = Q.length
  · rw [← hl] at hb ⊢
    go_enter Tryz.func87, Tryz.ntmps87
    go_wp2
    go_loopw [5] (fun i wr => ∃ k : Nat, k ≤ P.length ∧ i = .int .i64 k ∧ P.take k = Q.take k ∧ Below w.heap.size w wr) (fun i _ => P.length - (intOf i).toNat)
    case atStart => exact ⟨0, Nat.zero_le _, rfl, rfl, Below.refl _ _⟩
    case round =>
      obtain ⟨k, hk, rfl, htk, hbel⟩ := hrel
      have HT := Lib.hid htk
      clear htk
      by_cases hlt : k < P.length
      · obtain ⟨ga, oa, rfl, hga, hca⟩ := ha.cellAt hlt
        obtain ⟨gb, ob, rfl, hgb, hcb⟩ := hb.cellAt hlt
        rw [ssv_get P k hlt, ← hbel.cell (p := ⟨ga, oa + k, none⟩) hga] at hca
        rw [ssv_get Q k (by omega), ← hbel.cell (p := ⟨gb, ob + k, none⟩) hgb] at hcb
        obtain ⟨x, hx⟩ : ∃ x, x = P.getD k [] := ⟨_, rfl⟩
        obtain ⟨y, hy⟩ : ∃ y, y = Q.getD k [] := ⟨_, rfl⟩
        rw [← hx] at hca
        rw [← hy] at hcb
        have HX := Lib.hid hx
        have HY := Lib.hid hy
        have HL := Lib.hid hl
        clear hx hy hl ha hb
        by_cases hxy : x = y
        · subst hxy
          have HK : Hid (P.take (k + 1) = Q.take (k + 1)) := Lib.hid (by rw [take_get P k hlt, take_get Q k (by have := HL.out; omega), HT.out, ← HX.out, ← HY.out])
          go_wp2
          go_quiet (fail)
          go_wp2
          go_roundw
          case rel => exact ⟨k + 1, by omega, by go_num, HK.out, by first | exact hbel | exact hbel.drew | exact below_drewN hbel _⟩
          case measure => simp [intOf]; omega
        · have hne : ((bstr x).toList == (bstr y).toList) = false := by rw [bstr_eq]; simpa using hxy
          have HR : Hid (decide (P = Q) = false) := Lib.hid (by
            simp only [decide_eq_false_iff_not]
            intro e
            exact hxy (by rw [HX.out, HY.out, e]))
          clear hxy
          go_wp2
          go_quiet (fail)
          go_wp2
          go_ret
          exact ⟨ret_bool HR.out.symm, by first | exact hbel | exact hbel.drew | exact below_drewN hbel _⟩
      · obtain rfl : k = P.length := by omega
        have HR : Hid (decide (P = Q) = true) := Lib.hid (by
          have := HT.out
          rw [List.take_length, hl, List.take_length] at this
          simpa using this)
        clear hl
        go_wp2
        go_ret
        exact ⟨ret_bool HR.out.symm, hbel⟩
  · have hne : decide (P = Q) = false := by simp; intro h; exact hl (by rw [h])
    have hlen : ((P.length : Int) != (Q.length : Int)) = true := by simp; omega
    have HNE := Lib.hid hne
    clear hne
    go_enter Tryz.func87, Tryz.ntmps87
    go_wp2
    go_ret
    exact ⟨ret_bool HNE.out.symm, Below.refl _ _⟩

set_option maxRecDepth 20000 in
/-- laws.markText -/
theorem mark_any (k : Nat) (hk : k ≤ 9223372036854775807) (w : World) :
    Calls Tryz.prog 65 #[.int .i64 k] w fun e w' => e = .returned (.string (bstr (109 :: dig k))) ∧ Below w.heap.size w w' := by
  by_cases h0 : k = 0
  · subst h0
    have e0 : bstr (109 :: dig 0) = { data := #[109, 48] } := by simp [dig_lt, dg, bstr]
    go_enter Tryz.func65, Tryz.ntmps65
    go_wp2
    go_ret
    exact ⟨ret_str e0.symm, Below.refl _ _⟩
  · go_enter Tryz.func65, Tryz.ntmps65
    have h20 : (dig k).length ≤ 20 := dig_le64 (by omega)
    go_wp2
    go_loopw [0, 3] (fun v s wr => ∃ (m : Nat) (o : List UInt8), m ≤ 9223372036854775807 ∧ v = .int .i64 (m : Int) ∧ s = .string (bstr o) ∧ Tail k m o ∧ Below w.heap.size w wr)
      (fun v _ _ => (intOf v).natAbs)
    case atStart => exact ⟨k, [], by omega, rfl, rfl, tail_start h0, Below.refl _ _⟩
    case round =>
      obtain ⟨m, o, hm, rfl, rfl, htail, hbel⟩ := hrel
      have hol := Nat.le_trans (tail_len htail) h20
      have hsz : (bstr o).size ≤ 20 := by rw [bstr_size]; exact hol
      by_cases hc : m = 0
      · subst hc
        have H : Hid (o = dig k) := Lib.hid (htail.1 rfl)
        go_wp2
        go_ret
        exact ⟨ret_str (by rw [← H.out, bstr_cons]), hbel⟩
      · have H := Lib.hid (tail_step htail (by omega))
        have hcv := run_str_one (P := Tryz.prog) wr (t := 5) (dst := 9) Tryz.underlying170 Tryz.underlying5 Tryz.underlying9 (48 + (m : Int) % 10) (dg m) (by rw [dg_nat])
        have hs2 : (bstr [dg m]).size ≤ 1 := Nat.le_refl _
        clear htail hol
        go_wp2
        go_roundw
        case rel => exact ⟨m / 10, _, by omega, by go_num, by rw [bstr_append], H.out, hbel.alloc hbel.size _⟩
        case measure => simp [intOf]; omega

/-- the marks k, k + 1, .. -/
def marks (k n : Nat) : List (List UInt8) := (List.range n).map fun i => 109 :: dig (k + i)
theorem marks_len (k n : Nat) : (marks k n).length = n := by simp [marks]
theorem marks_get (k n i : Nat) (h : i < n) : (marks k n).getD i [] = 109 :: dig (k + i) := by
  simp [marks, List.getD, h]

/-- laws.markStringS: writes the marks into the row -/
theorem marks_any (n k c g : Nat) (hn : n ≤ 2097152) (hk : k ≤ 1073741824) (xs : List Value) (w : World) (base : Nat) (h : w.ownsRow base 9 1 (.slice (some ⟨g, 0, none⟩) n c) n xs) :
    Calls Tryz.prog 119 #[.slice (some ⟨g, 0, none⟩) n c, .int .i64 k] w fun e w' => e = .returned (.int .i64 ((k + n : Nat) : Int)) ∧
      w'.ownsRow base 9 1 (.slice (some ⟨g, 0, none⟩) n c) n (ssv (marks k n)) ∧ w.grownBy w' (some g) := by
  go_enter Tryz.func119, Tryz.ntmps119
  go_wp2
  go_loopw [1, 5] (fun v i wr => ∃ (j : Nat) (ys : List Value), j ≤ n ∧ i = .int .i64 j ∧ v = .int .i64 ((k + j : Nat) : Int) ∧ wr.ownsRow base 9 1 (.slice (some ⟨g, 0, none⟩) n c) n ys ∧ ys.take j = ssv (marks k j) ∧ w.grownBy wr (some g)) (fun _ i _ => n - (intOf i).toNat)
  case atStart => exact ⟨0, xs, Nat.zero_le _, rfl, by go_num, h, rfl, World.grownBy.refl _ _⟩
  case round =>
    obtain ⟨j, ys, hj, rfl, rfl, hown, hys, hgr⟩ := hrel
    by_cases hlt : j < n
    · have hg2 : g < wr.heap.size := by
        rcases hown.2 with ⟨h', _⟩ | ⟨g', cap', cur, h', _, hh, _⟩
        · simp at h'
        · simp only [Value.slice.injEq, Option.some.injEq, Addr.mk.injEq, and_true, true_and] at h'
          rw [h'.1]; exact (Array.getElem?_eq_some_iff.1 hh).1
      obtain ⟨v0, hc⟩ : ∃ v0, wr.cell? ⟨g, j, none⟩ = some v0 := by
        rw [hown.cellAt j (by omega)]
        exact ⟨_, List.getElem?_eq_getElem (by have := hown.1; omega)⟩
      have hf := hown.frozenAt j
      have HOWN := Lib.hid hown
      have HYS := Lib.hid hys
      clear hown hys h
      go_wp2_with (go_at_call 65; refine (mark_any (k + j) (by omega) _).mono ?_; rintro e w1 ⟨rfl, hb1⟩; have hc1 := (hb1.cell (p := ⟨g, j, none⟩) hg2).trans hc; have hf1 := (hb1.frozen (p := ⟨g, j, none⟩) hg2).trans hf)
      go_roundw
      case rel =>
        have h1 := own_below HOWN.out hb1
        refine ⟨j + 1, ys.set j (.string (bstr (109 :: dig (k + j)))), by omega, by go_num, by go_num, setCell_own h1 j _, ?_, grown_set (grown_below hgr hb1) j _⟩
        have hlen : ys.length = n := by have := h1.1; omega
        rw [List.take_succ_eq_append_getElem (by rw [List.length_set]; omega), List.take_set_of_le (Nat.le_refl _), HYS.out]
        simp [marks, List.range_succ, ssv]
      case measure => simp [intOf]; omega
    · obtain rfl : j = n := by omega
      have HW : Hid (wr.ownsRow base 9 1 (.slice (some ⟨g, 0, none⟩) j c) j (ssv (marks k j))) := Lib.hid (by
        have hlen : ys.length = j := by have := hown.1; omega
        rw [← hys, List.take_of_length_le (by omega)]; exact hown)
      clear h hown hys
      go_wp2
      go_ret
      exact ⟨ret_int (by omega), HW.out, hgr⟩
end Go.Proofs.YtjejdcehlckfhaaGreat.strl
