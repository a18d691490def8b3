/-
  PAIRS AND SORTS IN MEMORY; CONTRACTS OF THE LAWS' OWN FUNCTIONS ON THEM (eqSub, eqSubS, eqSorts, toSub, toSubS, toSorts, szSubS, szSorts).
-/
import Derived.Test.YtjejdcehlckfhaaGreatJoin
import Derived.OwnWalk
import Derived.Deep.RegionHeld3
import Derived.Deep.QuietTactic
import Derived.BigQuiet
import Derived.OpenShut
import Derived.ChangeSlices
namespace Go.Proofs.YtjejdcehlckfhaaGreat.subs
open Go.ChangeShapes Go.WideShapes Go.ChangeAt Go.RowKit
open mem split strl join

/-- the cells of pairs -/
def pcs (Q : List (Int × Int)) : List Value := Q.flatMap fun p => [.int .i64 p.1, .int .i64 p.2]
theorem pcs_append (P Q : List (Int × Int)) : pcs (P ++ Q) = pcs P ++ pcs Q := by simp [pcs]
theorem pcs_len (Q : List (Int × Int)) : (pcs Q).length = Q.length * 2 := by
  induction Q with
  | nil => rfl
  | cons p Q ih => simp [pcs] at ih ⊢; omega
theorem pcs_get : ∀ (Q : List (Int × Int)) (j : Nat), j < Q.length → (pcs Q)[j * 2]? = some (.int .i64 (Q.getD j (0, 0)).1) ∧ (pcs Q)[j * 2 + 1]? = some (.int .i64 (Q.getD j (0, 0)).2)
  | [], _, h => by simp at h
  | p :: Q, 0, _ => by simp [pcs]
  | p :: Q, j + 1, h => by
    have ih := pcs_get Q j (by simpa using h)
    have e : pcs (p :: Q) = .int .i64 p.1 :: .int .i64 p.2 :: pcs Q := by simp [pcs]
    rw [e, show (j + 1) * 2 = j * 2 + 1 + 1 by omega, List.getElem?_cons_succ, List.getElem?_cons_succ, List.getElem?_cons_succ, List.getElem?_cons_succ]
    simpa using ih
/-- the pairs are int64 -/
def In64 (Q : List (Int × Int)) : Prop := ∀ p ∈ Q, (-9223372036854775808 ≤ p.1 ∧ p.1 ≤ 9223372036854775807) ∧ (-9223372036854775808 ≤ p.2 ∧ p.2 ≤ 9223372036854775807)
theorem In64.get {Q : List (Int × Int)} (h : In64 Q) (j : Nat) : (-9223372036854775808 ≤ (Q.getD j (0, 0)).1 ∧ (Q.getD j (0, 0)).1 ≤ 9223372036854775807) ∧ (-9223372036854775808 ≤ (Q.getD j (0, 0)).2 ∧ (Q.getD j (0, 0)).2 ≤ 9223372036854775807) := by
  by_cases hj : j < Q.length
  · have := h _ (List.getElem_mem hj)
    simpa [List.getD, List.getElem?_eq_getElem hj] using this
  · have : Q.getD j (0, 0) = (0, 0) := by simp [List.getD, List.getElem?_eq_none (Nat.le_of_not_lt hj)]
    rw [this]; simp

/-- v is a slice of pairs that reads as Q -/
def HasP (w : World) (v : Value) (Q : List (Int × Int)) : Prop :=
  ∃ A c, v = .slice A Q.length c ∧ Q.length ≤ c ∧ c ≤ maxLen ∧ ∀ j, j < Q.length → ∃ g o, A = some ⟨g, o, none⟩ ∧ g < w.heap.size ∧ w.cell? ⟨g, o + j * 2, none⟩ = some (.int .i64 (Q.getD j (0, 0)).1) ∧ w.cell? ⟨g, o + j * 2 + 1, none⟩ = some (.int .i64 (Q.getD j (0, 0)).2)
theorem HasP.below {w w' : World} {v : Value} {Q : List (Int × Int)} (h : HasP w v Q) {B : Nat} (hB : w.heap.size ≤ B) (hb : Below B w w') : HasP w' v Q := by
  obtain ⟨A, c, rfl, h1, h2, h3⟩ := h
  refine ⟨A, c, rfl, h1, h2, fun j hu => ?_⟩
  obtain ⟨g, o, e, hg, hc, hc2⟩ := h3 j hu
  exact ⟨g, o, e, Nat.lt_of_lt_of_le hg hb.size, (hb.cell (p := ⟨g, o + j * 2, none⟩) (by show g < B; omega)).trans hc, (hb.cell (p := ⟨g, o + j * 2 + 1, none⟩) (by show g < B; omega)).trans hc2⟩
theorem HasP.of_own {w : World} {base n : Nat} {e : TypeId} {v : Value} {Q : List (Int × Int)} (h : w.ownsRow base e 2 v n (pcs Q)) : HasP w v Q := by
  have hl : Q.length = n := by have h1 := h.1; rw [pcs_len] at h1; omega
  rcases h.2 with ⟨rfl, rfl⟩ | ⟨g, cap, cur, rfl, hb, hg, hnc, hcm, hcs, htake⟩
  · have : Q = [] := List.eq_nil_of_length_eq_zero hl
    subst this
    exact ⟨none, 0, rfl, Nat.le_refl _, by unfold maxLen; omega, fun j hu => by simp at hu⟩
  · refine ⟨_, cap, by rw [hl], by omega, hcm, fun j hu => ⟨g, 0, rfl, (Array.getElem?_eq_some_iff.1 hg).1, ?_, ?_⟩⟩
    · rw [Nat.zero_add, h.cellAt (j * 2) (by omega)]; exact (pcs_get Q j hu).1
    · rw [Nat.zero_add, h.cellAt (j * 2 + 1) (by omega)]; exact (pcs_get Q j hu).2
theorem HasP.shape {w : World} {v : Value} {Q : List (Int × Int)} (h : HasP w v Q) {n : Nat} (hn : Q.length = n) : ∃ A c, v = .slice A n c ∧ HasP w (.slice A n c) Q := by
  subst hn
  obtain ⟨A, c, rfl, h'⟩ := h
  exact ⟨A, c, rfl, A, c, rfl, h'⟩
theorem HasP.len {w : World} {A : Option Addr} {n c : Nat} {Q : List (Int × Int)} (h : HasP w (.slice A n c) Q) : n = Q.length ∧ n ≤ 9223372036854775807 := by
  obtain ⟨A', c', e, h1, h2, _⟩ := h
  simp only [Value.slice.injEq] at e
  obtain ⟨rfl, rfl, rfl⟩ := e
  unfold maxLen at h2
  exact ⟨rfl, by omega⟩
theorem HasP.cellAt {w : World} {A : Option Addr} {n c : Nat} {Q : List (Int × Int)} (h : HasP w (.slice A n c) Q) {j : Nat} (hj : j < n) :
    ∃ g o, A = some ⟨g, o, none⟩ ∧ g < w.heap.size ∧ w.cell? ⟨g, o + j * 2, none⟩ = some (.int .i64 (Q.getD j (0, 0)).1) ∧ w.cell? ⟨g, o + j * 2 + 1, none⟩ = some (.int .i64 (Q.getD j (0, 0)).2) := by
  obtain ⟨A', c', e, h1, h2, h3⟩ := h
  simp only [Value.slice.injEq] at e
  obtain ⟨rfl, rfl, rfl⟩ := e
  exact h3 j hj

/-- laws.eqSub -/
theorem eqSub_any (a b c d : Int) (r : Bool) (hr : decide (a = c ∧ b = d) = r) (w : World) :
    Calls Tryz.prog 138 #[.agg #[.int .i64 a, .int .i64 b], .agg #[.int .i64 c, .int .i64 d]] w fun e w' => e = .returned (.bool r) ∧ Below w.heap.size w w' := by
  have HR := Lib.hid hr
  clear hr
  by_cases h1 : a = c
  · subst h1
    by_cases h2 : b = d
    · subst h2
      have HR2 : Hid (r = true) := Lib.hid (by rw [← HR.out]; simp)
      go_enter Tryz.func138, Tryz.ntmps138
      go_wp2
      go_ret
      exact ⟨ret_bool HR2.out.symm, (((Below.refl _ _).alloc (Nat.le_refl _) _).alloc (by simp) _)⟩
    · have HR2 : Hid (r = false) := Lib.hid (by rw [← HR.out]; simp [h2])
      have hd : (b == d) = false := by simpa using h2
      have HN := Lib.hid h2
      clear h2
      go_enter Tryz.func138, Tryz.ntmps138
      go_wp2
      go_ret
      exact ⟨ret_bool HR2.out.symm, (((Below.refl _ _).alloc (Nat.le_refl _) _).alloc (by simp) _)⟩
  · have HR2 : Hid (r = false) := Lib.hid (by rw [← HR.out]; simp [h1])
    have hd : (a == c) = false := by simpa using h1
    have HN := Lib.hid h1
    clear h1
    go_enter Tryz.func138, Tryz.ntmps138
    go_wp2
    go_ret
    exact ⟨ret_bool HR2.out.symm, (((Below.refl _ _).alloc (Nat.le_refl _) _).alloc (by simp) _)⟩
/-- laws.toSub -/
theorem toSub_any (a b : Int) (w : World) :
    Calls Tryz.prog 132 #[.agg #[.int .i64 a, .int .i64 b]] w fun e w' => e = .returned (.agg #[.int .i64 a, .int .i64 b]) ∧ Below w.heap.size w w' := by
  go_enter Tryz.func132, Tryz.ntmps132
  go_wp2
  refine bodyPost_ret (v := .agg #[.int .i64 a, .int .i64 b]) (by simp [results, Tryz.results132, go_sem]) rfl ⟨rfl, ?_⟩
  repeat (first | exact Below.refl _ _ | refine Below.setCell ?_ (by first | (simp; done) | (simp; omega)) _ | refine Below.alloc ?_ (by first | (simp; done) | (simp; omega)) _)
theorem takeP (Q : List (Int × Int)) (k : Nat) (h : k < Q.length) : Q.take (k + 1) = Q.take k ++ [Q.getD k (0, 0)] := by
  rw [List.take_succ_eq_append_getElem h]; simp [List.getD, List.getElem?_eq_getElem h]
/-- two pairs of cells stay, whatever a call adds -/
theorem keep_four {wr w0 w1 : World} {p q r s : Addr} {a b c d : Value} (h : (w0.cell? p = some a ∧ w0.cell? q = some b ∧ w0.cell? r = some c ∧ w0.cell? s = some d) ∧ Below wr.heap.size wr w0)
    (hp : p.block < wr.heap.size ∧ q.block < wr.heap.size ∧ r.block < wr.heap.size ∧ s.block < wr.heap.size) (hb : Below w0.heap.size w0 w1) :
    (w1.cell? p = some a ∧ w1.cell? q = some b ∧ w1.cell? r = some c ∧ w1.cell? s = some d) ∧ Below wr.heap.size wr w1 := by
  have hs := h.2.size
  exact ⟨⟨(hb.cell (by omega)).trans h.1.1, (hb.cell (by omega)).trans h.1.2.1, (hb.cell (by omega)).trans h.1.2.2.1, (hb.cell (by omega)).trans h.1.2.2.2⟩, h.2.trans (hb.mono hs)⟩
theorem setCell_own2 {w : World} {g n cap base : Nat} {e : TypeId} {xs : List Value} (h : w.ownsRow base e 2 (.slice (some ⟨g, 0, none⟩) n cap) n xs) (j : Nat) (u u2 : Value) :
    ((w.setCell ⟨g, j, none⟩ u).setCell ⟨g, j + 1, none⟩ u2).ownsRow base e 2 (.slice (some ⟨g, 0, none⟩) n cap) n ((xs.set j u).set (j + 1) u2) := setCell_own (setCell_own h j u) (j + 1) u2
/-- the two cells of a pair in an owned row -/
theorem own_two {w : World} {g n cap base : Nat} {e : TypeId} {xs : List Value} (h : w.ownsRow base e 2 (.slice (some ⟨g, 0, none⟩) n cap) n xs) {j : Nat} (hj : j < n) :
    (∃ v, w.cell? ⟨g, j * 2, none⟩ = some v) ∧ (∃ v, w.cell? ⟨g, j * 2 + 1, none⟩ = some v) ∧ w.frozen? ⟨g, j * 2, none⟩ = false ∧ w.frozen? ⟨g, j * 2 + 1, none⟩ = false := by
  refine ⟨?_, ?_, h.frozenAt _, h.frozenAt _⟩
  · rw [h.cellAt (j * 2) (by omega)]
    exact ⟨_, List.getElem?_eq_getElem (by have := h.1; omega)⟩
  · rw [h.cellAt (j * 2 + 1) (by omega)]
    exact ⟨_, List.getElem?_eq_getElem (by have := h.1; omega)⟩
/-- laws.eqSubS, at equal pairs -/
theorem eqSubS_same (Q : List (Int × Int)) (va vb : Value) (w : World) (ha : HasP w va Q) (hb : HasP w vb Q) :
    Calls Tryz.prog 88 #[va, vb] w fun e w' => e = .returned (.bool true) ∧ Below w.heap.size w w' := by
  obtain ⟨n, hn⟩ : ∃ n, n = Q.length := ⟨_, rfl⟩
  obtain ⟨A, ca, rfl, ha⟩ := ha.shape hn.symm
  obtain ⟨B, cb, rfl, hb⟩ := hb.shape hn.symm
  have hla := ha.len.2
  have HA := Lib.hid ha
  have HB := Lib.hid hb
  have HN := Lib.hid hn
  clear ha hb hn
  go_enter Tryz.func88, Tryz.ntmps88
  go_wp2
  go_loopw [5] (fun i wr => ∃ k : Nat, k ≤ n ∧ i = .int .i64 k ∧ Below w.heap.size w wr) (fun i _ => n - (intOf i).toNat)
  case atStart => exact ⟨0, Nat.zero_le _, rfl, Below.refl _ _⟩
  case round =>
    obtain ⟨k, hk, rfl, hbel⟩ := hrel
    by_cases hlt : k < n
    · obtain ⟨ga, oa, rfl, hga, hca, hca2⟩ := HA.out.cellAt hlt
      obtain ⟨gb, ob, rfl, hgb, hcb, hcb2⟩ := HB.out.cellAt hlt
      rw [← hbel.cell (p := ⟨ga, oa + k * 2, none⟩) hga] at hca
      rw [← hbel.cell (p := ⟨ga, oa + k * 2 + 1, none⟩) hga] at hca2
      rw [← hbel.cell (p := ⟨gb, ob + k * 2, none⟩) hgb] at hcb
      rw [← hbel.cell (p := ⟨gb, ob + k * 2 + 1, none⟩) hgb] at hcb2
      have hga2 : ga < wr.heap.size := Nat.lt_of_lt_of_le hga hbel.size
      have hgb2 : gb < wr.heap.size := Nat.lt_of_lt_of_le hgb hbel.size
      obtain ⟨x, hx⟩ : ∃ x, x = (Q.getD k (0, 0)).1 := ⟨_, rfl⟩
      obtain ⟨y, hy⟩ : ∃ y, y = (Q.getD k (0, 0)).2 := ⟨_, rfl⟩
      rw [← hx] at hca hcb
      rw [← hy] at hca2 hcb2
      clear hx hy
      go_wp2_with fail
      go_region_held3 (fun w' => (w'.cell? ⟨ga, oa + k * 2, none⟩ = some (.int .i64 x) ∧ w'.cell? ⟨ga, oa + k * 2 + 1, none⟩ = some (.int .i64 y) ∧ w'.cell? ⟨gb, ob + k * 2, none⟩ = some (.int .i64 x) ∧ w'.cell? ⟨gb, ob + k * 2 + 1, none⟩ = some (.int .i64 y)) ∧ Below wr.heap.size wr w')
        (first | (refine ⟨⟨?_, ?_, ?_, ?_⟩, (Below.refl _ _).drew⟩ <;> assumption) | (go_split_ands; exact keep_four (p := ⟨ga, oa + k * 2, none⟩) (q := ⟨ga, oa + k * 2 + 1, none⟩) (r := ⟨gb, ob + k * 2, none⟩) (s := ⟨gb, ob + k * 2 + 1, none⟩) ⟨⟨by assumption, by assumption, by assumption, by assumption⟩, by assumption⟩ ⟨hga2, hga2, hgb2, hgb2⟩ (by assumption)))
        ((go_at_call 138; refine (eqSub_any x y x y true (by simp) _).mono ?_; rintro e w1 ⟨rfl, hb1⟩))
      go_wp2
      go_roundw
      case rel =>
        have hh : (w1.cell? ⟨ga, oa + k * 2, none⟩ = some (.int .i64 x) ∧ w1.cell? ⟨ga, oa + k * 2 + 1, none⟩ = some (.int .i64 y) ∧ w1.cell? ⟨gb, ob + k * 2, none⟩ = some (.int .i64 x) ∧ w1.cell? ⟨gb, ob + k * 2 + 1, none⟩ = some (.int .i64 y)) ∧ Below wr.heap.size wr w1 := by assumption
        exact ⟨k + 1, by omega, by go_num, hbel.trans (hh.2.mono hbel.size)⟩
      case measure => simp [intOf]; omega
    · obtain rfl : k = n := by omega
      go_wp2
      go_ret
      exact ⟨rfl, hbel⟩
theorem info_sub : (Tryz.prog.info? 177).map (fun i => (i.zero, i.size, i.bytes)) = some (some (.agg #[.int .i64 0, .int .i64 0]), 2, 16) := by kernel_rfl
/-- laws.toSubS -/
theorem toSubS_any (Q : List (Int × Int)) (hQ : Q.length ≤ 1048576) (v : Value) (w : World) (h : HasP w v Q) :
    Calls Tryz.prog 82 #[v] w fun e w' => ∃ v', e = .returned v' ∧ w'.ownsRow w.heap.size 177 2 v' Q.length (pcs Q) ∧ Below w.heap.size w w' := by
  obtain ⟨n, hn⟩ : ∃ n, n = Q.length := ⟨_, rfl⟩
  obtain ⟨A, c, rfl, h⟩ := h.shape hn.symm
  obtain ⟨i0, hi, hz0, hz1, hz2⟩ := info_parts info_sub
  have hn2 : n ≤ 1048576 := by omega
  have HH := Lib.hid h
  have HN := Lib.hid hn
  rw [← hn]
  clear h hn hQ
  go_enter Tryz.func82, Tryz.ntmps82
  go_wp2_with (at_make; refine wpList_make_full _ rfl _ _ 35 rfl w.heap.size 177 i0 _ 2 Tryz.underlying35 hi hz0 hz1 _ _ _ _ n rfl rfl rfl rfl (by rw [hz2]; omega) (by unfold maxLen; omega) (Nat.le_refl _) ?_)
  intro w1 hown hgrow
  go_wp2
  go_loopw [4] (fun i wr => ∃ (j : Nat) (ys : List Value), j ≤ n ∧ i = .int .i64 j ∧ wr.ownsRow w.heap.size 177 2 (.slice (some ⟨w.heap.size, 0, none⟩) n n) n ys ∧ Hid (ys.take (j * 2) = pcs (Q.take j)) ∧ Below w.heap.size w wr) (fun i _ => n - (intOf i).toNat)
  case atStart => exact ⟨0, _, Nat.zero_le _, rfl, hown, Lib.hid rfl, (Below.refl _ _).grown hgrow (Nat.le_refl _) (by intro k h; cases h)⟩
  case round =>
    obtain ⟨j, ys, hj, rfl, hown, HY, hbel⟩ := hrel
    by_cases hlt : j < n
    · obtain ⟨g, o, rfl, hg, hcell, hcell2⟩ := HH.out.cellAt hlt
      rw [← hbel.cell (p := ⟨g, o + j * 2, none⟩) hg] at hcell
      rw [← hbel.cell (p := ⟨g, o + j * 2 + 1, none⟩) hg] at hcell2
      obtain ⟨x, hx⟩ : ∃ x, x = (Q.getD j (0, 0)).1 := ⟨_, rfl⟩
      obtain ⟨y, hy⟩ : ∃ y, y = (Q.getD j (0, 0)).2 := ⟨_, rfl⟩
      rw [← hx] at hcell
      rw [← hy] at hcell2
      have HX := Lib.hid hx
      have HXY := Lib.hid hy
      have HOWN := Lib.hid hown
      have HTK := Lib.hid (takeP Q j (by rw [← HN.out]; exact hlt))
      clear hx hy hown
      go_wp2_with (go_at_call 132; refine (toSub_any x y _).mono ?_; rintro e w2 ⟨rfl, hb2⟩; have HO2 := Lib.hid (own_below HOWN.out hb2); obtain ⟨⟨v0, hc0⟩, ⟨v1, hc1⟩, hf0, hf1⟩ := own_two HO2.out hlt)
      go_roundw
      case rel =>
        refine ⟨j + 1, _, by omega, by go_num, setCell_own2 HO2.out (j * 2) _ _, Lib.hid ?_, ((hbel.trans (hb2.mono hbel.size)).setCell (Nat.le_refl _) _).setCell (Nat.le_refl _) _⟩
        have hlen : ys.length = n * 2 := by have := HOWN.out.1; omega
        rw [show (j + 1) * 2 = j * 2 + 1 + 1 by omega, List.take_succ_eq_append_getElem (by simp; omega), List.take_set_of_le (Nat.le_refl _), List.take_succ_eq_append_getElem (by simp; omega), List.take_set_of_le (Nat.le_refl _), HY.out, HTK.out, pcs_append, HX.out, HXY.out]
        simp [pcs]
      case measure => simp [intOf]; omega
    · obtain rfl : j = n := by omega
      have HW : Hid (wr.ownsRow w.heap.size 177 2 (.slice (some ⟨w.heap.size, 0, none⟩) j j) j (pcs Q)) := Lib.hid (by
        have hlen : ys.length = j * 2 := by have := hown.1; omega
        have := HY.out
        rw [List.take_of_length_le (by omega), List.take_of_length_le (by have := HN.out; omega)] at this
        rw [← this]; exact hown)
      clear hown
      go_wp2
      go_ret
      exact ⟨_, rfl, HW.out, hbel⟩
/-- laws.szSubS -/
theorem szSubS_any (Q : List (Int × Int)) (v : Value) (w : World) (h : HasP w v Q) (m : Int) (hm : 0 ≤ m) (hm2 : m ≤ 1048576) :
    Calls Tryz.prog 73 #[v, .int .i64 m] w fun e w' => ∃ r : Int, e = .returned (.int .i64 r) ∧ (0 ≤ r → Q.length ≤ 1048576) ∧ -1 ≤ r ∧ r ≤ 1048576 ∧ Below w.heap.size w w' := by
  obtain ⟨n, hn⟩ : ∃ n, n = Q.length := ⟨_, rfl⟩
  obtain ⟨A, c, rfl, h⟩ := h.shape hn.symm
  have hl := h.len.2
  rw [← hn]
  clear h hn
  by_cases hneg : m - (n : Int) < 0
  · go_enter Tryz.func73, Tryz.ntmps73
    go_wp2
    go_ret
    exact ⟨-1, rfl, fun h => by omega, by omega, by omega, Below.refl _ _⟩
  · go_enter Tryz.func73, Tryz.ntmps73
    go_wp2
    go_ret
    exact ⟨_, rfl, fun h => by omega, by omega, by omega, Below.refl _ _⟩
/-- laws.szSorts -/
theorem szSorts_any (P : List (List UInt8)) (hP : ∀ k, k < P.length → (P.getD k []).length ≤ maxLen) (Q : List (Int × Int)) (va vb : Value) (w : World) (ha : Has w va (ssv P)) (hb : HasP w vb Q) :
    Calls Tryz.prog 32 #[.agg #[va, vb], .int .i64 1048576] w fun e w' => ∃ r : Int, e = .returned (.int .i64 r) ∧ (0 ≤ r → Small P ∧ Q.length ≤ 1048576) ∧ -1 ≤ r ∧ r ≤ 1048576 ∧ Below w.heap.size w w' := by
  obtain ⟨A, ca, rfl, ha'⟩ := ha.shape (ssv_len P)
  obtain ⟨B, cb, rfl, hb'⟩ := hb.shape rfl
  have hza := ha'.len.2
  have hzb := hb'.len.2
  have HSA := Lib.hid (fun W hW => sz_any P hP _ W (ha'.below (Nat.le_refl _) hW))
  have HSB := Lib.hid (fun W hW m h1 h2 => szSubS_any Q _ W (hb'.below (Nat.le_refl _) hW) m h1 h2)
  clear ha ha' hb hb' hP
  go_enter Tryz.func32, Tryz.ntmps32
  go_wp2_with (first
    | (go_at_call 72; refine (HSA.out _ ((Below.refl _ _).alloc (Nat.le_refl _) _)).mono ?_; rintro e w1 ⟨r, rfl, hr, hr1, hr2, hb1⟩
       have hcc : w1.cell? ⟨w.heap.size, 1, none⟩ = some (.slice B Q.length cb) := by rw [hb1.cell (p := ⟨w.heap.size, 1, none⟩) (by simp)]; simp
       have hbw : Below w.heap.size w w1 := ((Below.refl _ _).alloc (Nat.le_refl _) _).trans (hb1.mono (by simp))
       clear hb1)
    | (go_at_call 73; refine (HSB.out _ hbw r (by omega) (by omega)).mono ?_; rintro e w2 ⟨r2, rfl, hs, hs1, hs2, hb2⟩
       have hbw2 : Below w.heap.size w w2 := hbw.trans (hb2.mono hbw.size)
       clear hb2))
  · go_ret
    exact ⟨-1, rfl, fun h => by omega, by omega, by omega, hbw⟩
  · go_ret
    exact ⟨-1, rfl, fun h => by omega, by omega, by omega, hbw2⟩
  · go_ret
    exact ⟨r2, rfl, fun h => ⟨hr (by omega), hs h⟩, hs1, hs2, hbw2⟩
theorem bcell {W w1 : World} (hb : Below W.heap.size W w1) : (∀ b o, b < W.heap.size → w1.cell? ⟨b, o, none⟩ = W.cell? ⟨b, o, none⟩) ∧ (∀ b o, b < W.heap.size → w1.frozen? ⟨b, o, none⟩ = W.frozen? ⟨b, o, none⟩) :=
  ⟨fun b o h => hb.cell (p := ⟨b, o, none⟩) h, fun b o h => hb.frozen (p := ⟨b, o, none⟩) h⟩
theorem heap_at (w : World) (o : Obj) (g : Nat) (h : g = w.heap.size) : (w.alloc o).heap[g]? = some o := by subst h; exact (MapKept.heap_alloc w o).1
theorem own_down {w : World} {base base' n : Nat} {e : TypeId} {size : Nat} {v : Value} {xs : List Value} (h : w.ownsRow base e size v n xs) (hb : base' ≤ base) : w.ownsRow base' e size v n xs := by
  refine ⟨h.1, ?_⟩
  rcases h.2 with h2 | ⟨g, cap, cur, hv, hg, r⟩
  · exact .inl h2
  · exact .inr ⟨g, cap, cur, hv, Nat.le_trans hb hg, r⟩
/-- laws.toSorts: rows of its own -/
theorem toSorts_own (P : List (List UInt8)) (hP : P.length ≤ 1048576) (Q : List (Int × Int)) (hQ : Q.length ≤ 1048576) (va vb : Value) (w : World) (ha : Has w va (ssv P)) (hb : HasP w vb Q) :
    Calls Tryz.prog 37 #[.agg #[va, vb]] w fun e w' => ∃ v1 v2, e = .returned (.agg #[v1, v2]) ∧ w'.ownsRow w.heap.size 9 1 v1 P.length (ssv P) ∧ w'.ownsRow w.heap.size 177 2 v2 Q.length (pcs Q) ∧ Below w.heap.size w w' := by
  obtain ⟨A, ca, rfl, ha'⟩ := ha.shape (ssv_len P)
  obtain ⟨B, cb, rfl, hb'⟩ := hb.shape rfl
  have HSA := Lib.hid (fun W hW => to_any P hP _ W (ha'.below (Nat.le_refl _) hW))
  have HSB := Lib.hid (fun W hW => toSubS_any Q hQ _ W (hb'.below (Nat.le_refl _) hW))
  clear ha ha' hb hb'
  go_enter Tryz.func37, Tryz.ntmps37
  go_wp2_with (first
    | (go_at_call 81; refine (HSA.out _ ?_).mono ?_
       · repeat (first | exact Below.refl _ _ | refine Below.alloc ?_ (by first | (simp; done) | (simp; omega)) _)
       rintro e w1 ⟨v1, rfl, hown1, hb1⟩
       obtain ⟨A1, c1, rfl, hh1⟩ := (Has.of_own hown1).shape (ssv_len P)
       have HO1 := Lib.hid hown1
       have hk1 : w1.heap[w.heap.size + 1]? = some (.cells #[.slice none 0 0, .slice none 0 0] 37 (0, 0)) := by rw [hb1.block _ (by simp)]; exact (Below.heap_alloc _ _ _ (by simp)).trans (heap_at _ _ _ (by simp))
       have HK1 := Lib.hid hk1
       have hbw : Below w.heap.size w w1 := ((((Below.refl _ _).alloc (Nat.le_refl _) _).alloc (by simp) _).alloc (by simp; omega) _).trans (hb1.mono (by simp; omega))
       clear hown1 hh1 hk1
       obtain ⟨hc1, hf1⟩ := bcell hb1
       have hz : w.heap.size + 2 < w1.heap.size := by have := hb1.size; simp at this; omega)
    | (go_at_call 82; refine (HSB.out _ ?_).mono ?_
       · exact hbw.setCell (by simp; omega) _
       rintro e w2 ⟨v2, rfl, hown2, hb2⟩
       obtain ⟨A2, c2, rfl, hh2⟩ := (HasP.of_own hown2).shape rfl
       have HO2 := Lib.hid hown2
       have hbw2 : Below w.heap.size w w2 := (hbw.setCell (p := ⟨w.heap.size + 1 + 1, 0, none⟩) (by show w.heap.size ≤ w.heap.size + 1 + 1; omega) (.slice A1 P.length c1)).trans (hb2.mono (by simp; omega))
       have hk2 : w2.heap[w.heap.size + 1]? = some (.cells #[.slice none 0 0, .slice none 0 0] 37 (0, 0)) := by rw [hb2.block _ (by simp; omega), Below.heap_setCell _ _ _ _ (by simp)]; exact HK1.out
       have d0 : w2.cell? ⟨w.heap.size + 1, 0, none⟩ = some (.slice none 0 0) := cell_of_row w2 _ 0 _ _ _ hk2
       have d1 : w2.cell? ⟨w.heap.size + 1, 1, none⟩ = some (.slice none 0 0) := cell_of_row w2 _ 1 _ _ _ hk2
       have e0 := frozen_of_row w2 _ 0 _ _ hk2
       have e1 := frozen_of_row w2 _ 1 _ _ hk2
       have HO3 := Lib.hid (own_below (own_grown HO1.out (grown_set (g := w.heap.size + 1 + 1) (World.grownBy.refl _ _) 0 (.slice A1 P.length c1)) (by simp)) hb2)
       clear hown2 hh2 hk2
       obtain ⟨hc2, hf2⟩ := bcell hb2))
  refine bodyPost_ret (v := .agg #[.slice A1 P.length c1, .slice A2 Q.length c2]) (by simp [results, Tryz.results37, go_sem, d0, d1]) rfl ⟨_, _, rfl, ?_, ?_, ?_⟩
  · exact own_down (own_grown (own_grown (own_grown HO3.out (grown_set (World.grownBy.refl _ _) _ _) (by simp)) (grown_set (World.grownBy.refl _ _) _ _) (by simp)) (grown_set (World.grownBy.refl _ _) _ _) (by simp)) (by simp; omega)
  · exact own_down (own_grown (own_grown (own_grown HO2.out (grown_set (World.grownBy.refl _ _) _ _) (by simp; omega)) (grown_set (World.grownBy.refl _ _) _ _) (by simp; omega)) (grown_set (World.grownBy.refl _ _) _ _) (by simp; omega)) (by simp; omega)
  · exact ((hbw2.setCell (by simp; omega) _).setCell (by simp) _).setCell (by simp) _
/-- laws.toSorts -/
theorem toSorts_any (P : List (List UInt8)) (hP : P.length ≤ 1048576) (Q : List (Int × Int)) (hQ : Q.length ≤ 1048576) (va vb : Value) (w : World) (ha : Has w va (ssv P)) (hb : HasP w vb Q) :
    Calls Tryz.prog 37 #[.agg #[va, vb]] w fun e w' => ∃ v1 v2, e = .returned (.agg #[v1, v2]) ∧ Has w' v1 (ssv P) ∧ HasP w' v2 Q ∧ Below w.heap.size w w' :=
  (toSorts_own P hP Q hQ va vb w ha hb).mono fun _ _ ⟨v1, v2, h1, h2, h3, h4⟩ => ⟨v1, v2, h1, Has.of_own h2, HasP.of_own h3, h4⟩
/-- laws.eqSorts, at equal sorts -/
theorem eqSorts_same (P : List (List UInt8)) (Q : List (Int × Int)) (va vb va' vb' : Value) (w : World) (ha : Has w va (ssv P)) (hb : HasP w vb Q) (ha' : Has w va' (ssv P)) (hb' : HasP w vb' Q) :
    Calls Tryz.prog 42 #[.agg #[va, vb], .agg #[va', vb']] w fun e w' => e = .returned (.bool true) ∧ Below w.heap.size w w' := by
  have HSA := Lib.hid (fun W hW => eq_any P P _ _ W (ha.below (Nat.le_refl _) hW) (ha'.below (Nat.le_refl _) hW))
  have HSB := Lib.hid (fun W hW => eqSubS_same Q _ _ W (hb.below (Nat.le_refl _) hW) (hb'.below (Nat.le_refl _) hW))
  have HD : Hid (decide (P = P) = true) := Lib.hid (by simp)
  obtain ⟨A, ca, rfl, _⟩ := ha.shape (ssv_len P)
  obtain ⟨A', ca', rfl, _⟩ := ha'.shape (ssv_len P)
  obtain ⟨B, cb, rfl, _⟩ := hb.shape rfl
  obtain ⟨B', cb', rfl, _⟩ := hb'.shape rfl
  clear ha ha' hb hb'
  go_enter Tryz.func42, Tryz.ntmps42
  go_wp2_with (first
    | (go_at_call 87; refine (HSA.out _ ?_).mono ?_
       · repeat (first | exact Below.refl _ _ | refine Below.alloc ?_ (by first | (simp; done) | (simp; omega)) _)
       rw [HD.out]
       rintro e w1 ⟨rfl, hb1⟩
       have hc1 : w1.cell? ⟨w.heap.size, 1, none⟩ = some (.slice B Q.length cb) := by rw [hb1.cell (p := ⟨w.heap.size, 1, none⟩) (by simp; omega)]; simp
       have hc2 : w1.cell? ⟨w.heap.size + 1, 1, none⟩ = some (.slice B' Q.length cb') := by rw [hb1.cell (p := ⟨w.heap.size + 1, 1, none⟩) (by simp)]; simp
       have hbw : Below w.heap.size w w1 := (((Below.refl _ _).alloc (Nat.le_refl _) _).alloc (by simp) _).trans (hb1.mono (by simp; omega))
       clear hb1)
    | (go_at_call 88; refine (HSB.out _ hbw).mono ?_; rintro e w2 ⟨rfl, hb2⟩
       have hbw2 : Below w.heap.size w w2 := hbw.trans (hb2.mono hbw.size)
       clear hb2))
  go_ret
  exact ⟨rfl, hbw2⟩
end Go.Proofs.YtjejdcehlckfhaaGreat.subs
