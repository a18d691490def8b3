/-
  CONTRACTS OF THE LAWS' OWN FUNCTIONS ON []int, and a []int that came in.
-/
import Derived.Test.YtiilamngcoegiaaSetm
import Derived.Test.YtiilamngcoegiaaSets
import Derived.Deep.QuietTactic
import Derived.BigQuiet
import Derived.OpenShut
import Derived.ChangeSlices
namespace Go.Proofs.Ytiilamngcoegiaa.intl
open Go.ChangeShapes Go.WideShapes Go.ChangeAt Go.RowKit
open mem setm

theorem takeI (L : List Int) (k : Nat) (h : k < L.length) : L.take (k + 1) = L.take k ++ [L.getD k 0] := by
  rw [List.take_succ_eq_append_getElem h]; simp [List.getD, List.getElem?_eq_getElem h]
theorem made_i64 (n : Nat) : (madeCells #[Value.int .i64 0] n).toList = ivs (List.replicate n 0) := by
  simp [ivs, madeCells, Nat.mod_one, List.map_const']

/-- laws.eqIntS -/
theorem eq_any (P Q : List Int) (va vb : Value) (w : World) (ha : Has w va (ivs P)) (hb : Has w vb (ivs Q)) :
    Calls Try.prog 16 #[va, vb] w fun e w' => e = .returned (.bool (decide (P = Q))) ∧ Below w.heap.size w w' := by
  obtain ⟨A, ca, rfl, ha⟩ := ha.shape (ivs_len P)
  obtain ⟨B, cb, rfl, hb⟩ := hb.shape (ivs_len Q)
  have hla := ha.len.2
  have hlb := hb.len.2
  by_cases hl : P.length = Q.length
  · rw [← hl] at hb ⊢
    go_enter Try.func16, Try.ntmps16
    go_wp2
    go_loopw [5] (fun i wr => ∃ k : Nat, k ≤ P.length ∧ i = .int .i64 k ∧ P.take k = Q.take k ∧ Below w.heap.size w wr) (fun i _ => P.length - (intOf i).toNat)
    case atStart => exact ⟨0, Nat.zero_le _, rfl, rfl, Below.refl _ _⟩
    case round =>
      obtain ⟨k, hk, rfl, htk, hbel⟩ := hrel
      have HT := Lib.hid htk
      clear htk
      by_cases hlt : k < P.length
      · obtain ⟨ga, oa, rfl, hga, hca⟩ := ha.cellAt hlt
        obtain ⟨gb, ob, rfl, hgb, hcb⟩ := hb.cellAt hlt
        rw [ivs_get P k hlt, ← hbel.cell (p := ⟨ga, oa + k, none⟩) hga] at hca
        rw [ivs_get Q k (by omega), ← hbel.cell (p := ⟨gb, ob + k, none⟩) hgb] at hcb
        obtain ⟨x, hx⟩ : ∃ x, x = P.getD k 0 := ⟨_, rfl⟩
        obtain ⟨y, hy⟩ : ∃ y, y = Q.getD k 0 := ⟨_, rfl⟩
        rw [← hx] at hca
        rw [← hy] at hcb
        have HX := Lib.hid hx
        have HY := Lib.hid hy
        have HL := Lib.hid hl
        clear hx hy hl ha hb
        by_cases hxy : x = y
        · subst hxy
          have HK : Hid (P.take (k + 1) = Q.take (k + 1)) := Lib.hid (by rw [takeI P k hlt, takeI Q k (by have := HL.out; omega), HT.out, ← HX.out, ← HY.out])
          go_wp2
          go_quiet (fail)
          go_wp2
          go_roundw
          case rel => exact ⟨k + 1, by omega, by go_num, HK.out, by first | exact hbel | exact hbel.drew | exact below_drewN hbel _⟩
          case measure => simp [intOf]; omega
        · have hne : (x != y) = true := by simpa using hxy
          have HR : Hid (decide (P = Q) = false) := Lib.hid (by
            simp only [decide_eq_false_iff_not]
            intro e
            exact hxy (by rw [HX.out, HY.out, e]))
          clear hxy
          go_wp2
          go_quiet (fail)
          go_wp2
          go_ret
          exact ⟨ret_bool HR.out.symm, by first | exact hbel | exact hbel.drew | exact below_drewN hbel _⟩
      · obtain rfl : k = P.length := by omega
        have HR : Hid (decide (P = Q) = true) := Lib.hid (by
          have := HT.out
          rw [List.take_length, hl, List.take_length] at this
          simpa using this)
        clear hl
        go_wp2
        go_ret
        exact ⟨ret_bool HR.out.symm, hbel⟩
  · have hne : decide (P = Q) = false := by simp; intro h; exact hl (by rw [h])
    have hlen : ((P.length : Int) != (Q.length : Int)) = true := by simp; omega
    have HNE := Lib.hid hne
    clear hne
    go_enter Try.func16, Try.ntmps16
    go_wp2
    go_ret
    exact ⟨ret_bool HNE.out.symm, Below.refl _ _⟩
theorem eq_same (P : List Int) (va vb : Value) (w : World) (ha : Has w va (ivs P)) (hb : Has w vb (ivs P)) :
    Calls Try.prog 16 #[va, vb] w fun e w' => e = .returned (.bool true) ∧ Below w.heap.size w w' :=
  (eq_any P P va vb w ha hb).mono fun e w' ⟨h1, h2⟩ => ⟨by rw [h1]; simp, h2⟩

/-- the numbers k, k + 1, .. -/
def imarks (k n : Nat) : List Int := (List.range n).map fun i => ((k + i : Nat) : Int)
theorem imarks_len (k n : Nat) : (imarks k n).length = n := by simp [imarks]
theorem imarks_get (k n i : Nat) (h : i < n) : (imarks k n).getD i 0 = ((k + i : Nat) : Int) := by
  simp [imarks, List.getD, h]

/-- laws.markIntS: writes the marks into the row -/
theorem marks_any (n k c g : Nat) (hn : n ≤ 2097152) (hk : k ≤ 1073741824) (xs : List Value) (w : World) (base : Nat) (h : w.ownsRow base 3 1 (.slice (some ⟨g, 0, none⟩) n c) n xs) :
    Calls Try.prog 18 #[.slice (some ⟨g, 0, none⟩) n c, .int .i64 k] w fun e w' => e = .returned (.int .i64 ((k + n : Nat) : Int)) ∧
      w'.ownsRow base 3 1 (.slice (some ⟨g, 0, none⟩) n c) n (ivs (imarks k n)) ∧ w.grownBy w' (some g) := by
  go_enter Try.func18, Try.ntmps18
  go_wp2
  go_loopw [1, 5] (fun v i wr => ∃ (j : Nat) (ys : List Value), j ≤ n ∧ i = .int .i64 j ∧ v = .int .i64 ((k + j : Nat) : Int) ∧ wr.ownsRow base 3 1 (.slice (some ⟨g, 0, none⟩) n c) n ys ∧ ys.take j = ivs (imarks k j) ∧ w.grownBy wr (some g)) (fun _ i _ => n - (intOf i).toNat)
  case atStart => exact ⟨0, xs, Nat.zero_le _, rfl, by go_num, h, rfl, World.grownBy.refl _ _⟩
  case round =>
    obtain ⟨j, ys, hj, rfl, rfl, hown, hys, hgr⟩ := hrel
    by_cases hlt : j < n
    · obtain ⟨v0, hc⟩ : ∃ v0, wr.cell? ⟨g, j, none⟩ = some v0 := by
        rw [hown.cellAt j (by omega)]
        exact ⟨_, List.getElem?_eq_getElem (by have := hown.1; omega)⟩
      have hf := hown.frozenAt j
      have HOWN := Lib.hid hown
      have HYS := Lib.hid hys
      clear hown hys h
      go_wp2
      go_roundw
      case rel =>
        refine ⟨j + 1, ys.set j (.int .i64 ((k + j : Nat) : Int)), by omega, by go_num, by go_num, setCell_own HOWN.out j _, ?_, grown_set hgr j _⟩
        have hlen : ys.length = n := by have := HOWN.out.1; omega
        rw [List.take_succ_eq_append_getElem (by rw [List.length_set]; omega), List.take_set_of_le (Nat.le_refl _), HYS.out]
        simp [imarks, List.range_succ, ivs]
      case measure => simp [intOf]; omega
    · obtain rfl : j = n := by omega
      have HW : Hid (wr.ownsRow base 3 1 (.slice (some ⟨g, 0, none⟩) j c) j (ivs (imarks k j))) := Lib.hid (by
        have hlen : ys.length = j := by have := hown.1; omega
        rw [← hys, List.take_of_length_le (by omega)]; exact hown)
      clear h hown hys
      go_wp2
      go_ret
      exact ⟨ret_int (by omega), HW.out, hgr⟩
/-- laws.markIntS of an empty slice -/
theorem marks_none (k c : Nat) (A : Option Addr) (w : World) :
    Calls Try.prog 18 #[.slice A 0 c, .int .i64 k] w fun e w' => e = .returned (.int .i64 (k : Int)) ∧ w = w' := by
  go_enter Try.func18, Try.ntmps18
  go_wp2
  go_loop [1, 5] (fun v i => v = .int .i64 (k : Int) ∧ i = .int .i64 0) (fun _ _ => 0)
  case atStart => exact ⟨rfl, rfl⟩
  case round =>
    obtain ⟨rfl, rfl⟩ := hrel
    go_wp2
    go_ret
    exact ⟨rfl, rfl⟩
/-- laws.toIntS -/
theorem to_any (L : List Int) (hL : L.length ≤ 1048576) (v : Value) (w : World) (h : Has w v (ivs L)) :
    Calls Try.prog 13 #[v] w fun e w' => ∃ u, e = .returned u ∧ w'.ownsRow w.heap.size 3 1 u L.length (ivs L) ∧ Below w.heap.size w w' := by
  obtain ⟨A, c, rfl, h⟩ := h.shape (ivs_len L)
  obtain ⟨i0, hi, hz0, hz1, hz2⟩ := info_parts sets.info_int
  go_enter Try.func13, Try.ntmps13
  go_wp2_with (first | (at_make; refine wpList_make_full _ rfl _ _ 22 rfl w.heap.size 3 i0 (.int .i64 0) 1 Try.underlying22 hi hz0 hz1 _ _ _ _ L.length rfl rfl rfl rfl (by rw [hz2]; omega) (by unfold maxLen; omega) (Nat.le_refl _) ?_))
  intro w1 hown hgrow
  go_wp2
  go_loopw [4] (fun i wr => ∃ (j : Nat) (ys : List Value), j ≤ L.length ∧ i = .int .i64 j ∧ wr.ownsRow w.heap.size 3 1 (.slice (some ⟨w.heap.size, 0, none⟩) L.length L.length) L.length ys ∧ ys.take j = ivs (L.take j) ∧ Below w.heap.size w wr) (fun i _ => L.length - (intOf i).toNat)
  case atStart => exact ⟨0, _, Nat.zero_le _, rfl, by simpa [Value.cells] using hown, rfl, (Below.refl _ _).grown hgrow (Nat.le_refl _) (by intro k hk; cases hk)⟩
  case round =>
    obtain ⟨j, ys, hj, rfl, hown, hys, hbel⟩ := hrel
    by_cases hlt : j < L.length
    · obtain ⟨ga, oa, rfl, hga, hca⟩ := h.cellAt hlt
      rw [ivs_get L j hlt, ← hbel.cell (p := ⟨ga, oa + j, none⟩) hga] at hca
      have HT := Lib.hid (takeI L j hlt)
      obtain ⟨x, hx⟩ : ∃ x, x = L.getD j 0 := ⟨_, rfl⟩
      rw [← hx] at hca HT
      obtain ⟨v0, hc⟩ : ∃ v0, wr.cell? ⟨w.heap.size, j, none⟩ = some v0 := by
        rw [hown.cellAt j (by omega)]
        exact ⟨_, List.getElem?_eq_getElem (by have := hown.1; omega)⟩
      have hf := hown.frozenAt j
      have HOWN := Lib.hid hown
      have HYS := Lib.hid hys
      clear hown hys h hx
      go_wp2
      go_roundw
      case rel =>
        refine ⟨j + 1, ys.set j (.int .i64 x), by omega, by go_num, setCell_own HOWN.out j _, ?_, hbel.setCell (Nat.le_refl _) _⟩
        have hlen : ys.length = L.length := by have := HOWN.out.1; omega
        rw [List.take_succ_eq_append_getElem (by rw [List.length_set]; omega), List.take_set_of_le (Nat.le_refl _), HYS.out, HT.out]
        simp [ivs]
      case measure => simp [intOf]; omega
    · obtain rfl : j = L.length := by omega
      have HW : Hid (wr.ownsRow w.heap.size 3 1 (.slice (some ⟨w.heap.size, 0, none⟩) L.length L.length) L.length (ivs L)) := Lib.hid (by
        have hlen : ys.length = L.length := by have := hown.1; omega
        rw [List.take_length] at hys
        rw [← hys, List.take_of_length_le (by omega)]; exact hown)
      clear h hown hys
      go_wp2
      go_ret
      exact ⟨_, rfl, HW.out, hbel⟩
set_option maxRecDepth 100000 in
/-- a []int that came in -/
theorem has_ints {H : Type} {enc : TypeId × Value → H} {W : World} {base : Nat} {v : Value} {d : DataW H} {p : List MemPlace}
    (hval : Value.okWide Try.prog W .any base 22 v) (hd : DataW.Trod enc Try.prog W 0 (fun _ => true) true 22 v d p) :
    ∃ L : List Int, Has W v (ivs L) ∧ ∀ x ∈ L, (Lit.int .i64 x).wf = true := by
  obtain ⟨a0, len, cap, rfl⟩ := okWide_slice Try.underlying22 hval
  obtain ⟨fuel, hf⟩ := hd
  rcases open_ints Try.underlying22 Try.underlying3 (by kernel_rfl) hf with ⟨hcs, hx⟩ | ⟨a, len', cap', zs, hcs, _, hl, hm, hz, hx, hcell, hwz⟩
  · simp [Value.cells] at hcs
    obtain ⟨rfl, rfl, rfl⟩ := hcs
    exact ⟨[], ⟨none, 0, rfl, Nat.le_refl _, by unfold maxLen; omega, fun j u hu => by simp [ivs] at hu⟩, fun x hx => by simp at hx⟩
  · simp [Value.cells] at hcs
    obtain ⟨rfl, rfl, rfl⟩ := hcs
    simp only [if_true] at hz
    have hlen : (zs.take len).length = len := by simp; omega
    refine ⟨zs.take len, ⟨some a, cap, by rw [ivs_len, hlen], by rw [ivs_len, hlen]; exact hl, hm, fun j u hu => ?_⟩, fun x hx => hwz x (List.mem_of_mem_take hx)⟩
    have hj : j < len := by have := (List.getElem?_eq_some_iff.1 hu).1; rw [ivs_len, hlen] at this; exact this
    have hc0 := hcell 0 (by omega)
    have hcj := hcell j (by omega)
    obtain ⟨b, o, sp⟩ := a
    have hsp : sp = none := by simpa [Addr.add] using World.cell?_spot hc0
    subst hsp
    have hu' : u = .int .i64 (zs.getD j 0) := by
      simp only [ivs, List.getElem?_map, List.getElem?_take, if_pos hj, List.getElem?_eq_getElem (show j < zs.length by omega)] at hu
      simp only [Option.map_some, Option.some.injEq] at hu
      rw [← hu]
      simp [List.getD, List.getElem?_eq_getElem (show j < zs.length by omega)]
    subst hu'
    refine ⟨b, o, rfl, World.block_lt_of_cell? W _ hc0, ?_⟩
    rw [Addr.add_lit] at hcj
    exact hcj
end Go.Proofs.Ytiilamngcoegiaa.intl
