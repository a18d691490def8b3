/-
  Termt, Sortp, Sorti, Sigm, Tsm, Sigs, Tsi, Sortf, Sigi, Sigt, Sigj, Sigk, Sigq, Sige, Sigr, Sigv, Termu, Sigu, Tmq, merged.
-/
import Derived.Test.YtkkmjaggebjcbaaGreatPk02
import Derived.Test.YtkkmjaggebjcbaaGreatPk03
import Derived.Deep.RegionHeld3
import Derived.Test.YtkkmjaggebjcbaaGreatSortn
import Derived.Test.YtkkmjaggebjcbaaGreatPk01
import Derived.Maps.OwnSet
import Derived.Maps.OwnOps
import Derived.Maps.Views
import Derived.Test.YtkkmjaggebjcbaaGreatSubs
import Derived.Laws.Cover3
import Derived.Laws.StructEq
import Derived.ChangeKeysEq
import Derived.Deep.QuietTactic
import Derived.BigQuiet
import Derived.Deep.Quiet
/-
 CONTRACTS OF THE LAWS' OWN FUNCTIONS ON TERMS: szTerm, toTerm, eqTerm and those of their rows.
-/
namespace Go.Proofs.YtkkmjaggebjcbaaGreat.termt
open Go.ChangeShapes Go.WideShapes Go.ChangeAt Go.RowKit
open mem rowl trm trmv terml

/-- laws.szTermS, at terms of at most this depth -/
def SzS (n : Nat) : Prop := ∀ (L : List TermM) (v : Value) (w : World) (lo : Nat), HasTs n lo w v L → ∀ m : Int, 0 ≤ m → m ≤ 1048576 →
 Calls Tryz.prog 7 #[v, .int .i64 m] w fun e w' => ∃ r : Int, e = .returned (.int .i64 r) ∧ (0 ≤ r → r + sizes L ≤ m) ∧ -1 ≤ r ∧ r ≤ 1048576 ∧ Below w.heap.size w w'
/-- laws.szTerm -/
theorem szTerm_of {n : Nat} (hS : SzS n) (op : Int) (l : List UInt8) (s : Int) (L : List TermM) (va : Value) (w : World) {lo : Nat} (hl : l.length ≤ maxLen) (h : HasTs n lo w va L) (m : Int) (hm : 0 ≤ m) (hm2 : m ≤ 1048576) :
  Calls Tryz.prog 19 #[.agg #[.int .i64 op, .string (bstr l), .int .i64 s, va], .int .i64 m] w fun e w' => ∃ r : Int, e = .returned (.int .i64 r) ∧ (0 ≤ r → r + sizes L ≤ m) ∧ -1 ≤ r ∧ r ≤ 1048576 ∧ Below w.heap.size w w' := by
 have hsz := bstr_size l
 have HSZ := Lib.hid (fun W (hW : Below w.heap.size w W) m h1 h2 => hS L va W lo (h.below (Nat.le_refl _) hW) m h1 h2)
 obtain ⟨A, c, rfl, h⟩ := HasR.shape h rfl
 obtain ⟨k, hk⟩ : ∃ k, k = L.length := ⟨_, rfl⟩
 rw [← hk] at HSZ ⊢
 unfold maxLen at hl
 clear h hk
 by_cases hneg : m - (l.length : Int) < 0
 ·go_enter Tryz.func19, Tryz.ntmps19
  go_wp2
  go_ret
  exact ⟨-1, rfl, fun h => by omega, by omega, by omega, (Below.refl _ _).alloc (Nat.le_refl _) _⟩
 ·go_enter Tryz.func19, Tryz.ntmps19
  go_wp2_with fail
  refine (HSZ.out _ ((Below.refl _ _).alloc (Nat.le_refl _) _) (m - l.length) (by omega) (by omega)).mono ?_
  rintro e w1 ⟨r, rfl, hr, hr1, hr2, hb⟩
  have hbw : Below w.heap.size w w1 := ((Below.refl _ _).alloc (Nat.le_refl _) _).trans (hb.mono (by simp))
  clear hb
  by_cases hneg2 : r < 0
  ·go_wp2
   go_ret
   exact ⟨-1, rfl, fun h => by omega, by omega, by omega, hbw⟩
  ·go_wp2
   go_ret
   exact ⟨r, rfl, fun h => by have := hr h; omega, hr1, hr2, hbw⟩
theorem sizes_take {L : List TermM} {k : Nat} (h : k < L.length) : sizes (L.take (k + 1)) = sizes (L.take k) + size (L.getD k default) := by
 rw [List.take_succ_eq_append_getElem h, getD_at h]
 simp only [sizes, List.map_append, List.map_cons, List.map_nil, List.sum_append, List.sum_cons, List.sum_nil]
 omega
theorem sizes_len (L : List TermM) : L.length ≤ sizes L := by
 induction L with
 | nil => simp
 | cons a l ih =>
  have := size_pos a
  simp only [sizes, List.map_cons, List.sum_cons, List.length_cons] at ih ⊢
  omega
theorem size_le_sizes {l : List TermM} : ∀ {j : Nat}, j < l.length → size (l.getD j default) ≤ sizes l := by
 induction l with
 | nil => intro j h; simp at h
 | cons a l ih =>
  intro j h
  simp only [sizes, List.map_cons, List.sum_cons] at ih ⊢
  cases j with
  | zero => simp
  | succ j =>
   have := ih (j := j) (by simpa using h)
   rw [List.getD_cons_succ]
   omega
theorem szS_step {n : Nat} (hS : ∀ k, n = k + 1 → SzS k) : SzS n := by
 intro L v w lo h m hm hm2
 obtain ⟨N, hN⟩ : ∃ N, N = L.length := ⟨_, rfl⟩
 obtain ⟨A, c, rfl, h⟩ := HasR.shape h hN.symm
 have hl := h.len.2.1
 have HH := Lib.hid h
 have HN := Lib.hid hN
 have HS := Lib.hid hS
 clear h hN hS
 by_cases hneg : m - (N : Int) < 0
 ·go_enter Tryz.func7, Tryz.ntmps7
  go_wp2
  go_ret
  exact ⟨-1, rfl, fun h => by omega, by omega, by omega, Below.refl _ _⟩
 ·have hnm : (N : Int) ≤ m := by omega
  go_enter Tryz.func7, Tryz.ntmps7
  go_wp2
  go_loopw [1, 5] (fun v i wr => ∃ (k : Nat) (r : Int), k ≤ N ∧ i = .int .i64 k ∧ v = .int .i64 r ∧ 0 ≤ r ∧ r ≤ 1048576 ∧ Hid (r + (N - k) + sizes (L.take k) ≤ m) ∧ Below w.heap.size w wr) (fun _ i _ => N - (intOf i).toNat)
  case atStart => exact ⟨0, _, Nat.zero_le _, rfl, rfl, by omega, by omega, Lib.hid (by have : sizes (L.take 0) = 0 := rfl; omega), Below.refl _ _⟩
  case round =>
   obtain ⟨k, r, hk, rfl, rfl, hr0, hr1, HSM, hbel⟩ := hrel
   by_cases hlt : k < N
   ·obtain ⟨k', g, o, A2, c2, hnk, rfl, _, hg, hc0, hc1, hc2, hc3, hh, hnm, _, _⟩ := term_at HH.out hlt
    rw [← hbel.cell (p := ⟨g, o + k * 4, none⟩) hg] at hc0
    rw [← hbel.cell (p := ⟨g, o + k * 4 + 1, none⟩) hg] at hc1
    rw [← hbel.cell (p := ⟨g, o + k * 4 + 2, none⟩) hg] at hc2
    rw [← hbel.cell (p := ⟨g, o + k * 4 + 3, none⟩) hg] at hc3
    have hh2 := hh.below (Nat.le_refl _) hbel
    have HST : Hid (sizes (L.take (k + 1)) = sizes (L.take k) + size (L.getD k default)) := Lib.hid (sizes_take (by have := HN.out; omega))
    obtain ⟨⟨op, l, s, ags⟩, ht⟩ : ∃ t, t = L.getD k default := ⟨_, rfl⟩
    rw [← ht] at hc0 hc1 hc2 hc3 hh2 hnm HST
    rw [size_mk] at HST
    simp only [TermM.op, TermM.name, TermM.sort, TermM.args] at hc0 hc1 hc2 hc3 hh2 hnm
    have HZ := Lib.hid (fun W (hW : Below wr.heap.size wr W) m h1 h2 => szTerm_of (HS.out k' hnk) op l s ags _ W hnm (hh2.below (Nat.le_refl _) hW) m h1 h2)
    obtain ⟨n2, hn2⟩ : ∃ n2, n2 = ags.length := ⟨_, rfl⟩
    rw [← hn2] at hc3 HZ
    clear hh hh2 hn2 ht hnm
    go_wp2_with fail
    refine (HZ.out _ (Below.refl _ _) r hr0 hr1).mono ?_
    rintro e w2 ⟨r2, rfl, hs, hs1, hs2, hb2⟩
    have HS2 := Lib.hid hs
    clear hs
    by_cases hneg2 : r2 < 0
    ·go_wp2
     go_ret
     exact ⟨-1, rfl, fun h => by omega, by omega, by omega, hbel.trans (hb2.mono hbel.size)⟩
    ·go_wp2
     go_roundw
     case rel => exact ⟨k + 1, r2, by omega, by go_num, rfl, by omega, hs2, Lib.hid (by have h1 := HS2.out (by omega); have h2 := HSM.out; have h3 := HST.out; omega), hbel.trans (hb2.mono hbel.size)⟩
     case measure => simp [intOf]; omega
   ·obtain rfl : k = N := by omega
    have HE : Hid (r + sizes L ≤ m) := Lib.hid (by have h2 := HSM.out; rw [HN.out, List.take_length] at h2; omega)
    go_wp2
    go_ret
    exact ⟨r, rfl, fun _ => HE.out, by omega, hr1, hbel⟩
theorem szTermS_any : ∀ n, SzS n
 | 0 => szS_step (fun k h => by omega)
 | n + 1 => szS_step (fun k h => Nat.succ.inj h ▸ szTermS_any n)
theorem bcell {W w1 : World} (hb : Below W.heap.size W w1) : (∀ b o, b < W.heap.size → w1.cell? ⟨b, o, none⟩ = W.cell? ⟨b, o, none⟩) ∧ (∀ b o, b < W.heap.size → w1.frozen? ⟨b, o, none⟩ = W.frozen? ⟨b, o, none⟩) :=
 ⟨fun b _ h => hb.cell (p := ⟨b, _, none⟩) h, fun b _ h => hb.frozen (p := ⟨b, _, none⟩) h⟩
theorem heap_at (w : World) (o : Obj) (g : Nat) (h : g = w.heap.size) : (w.alloc o).heap[g]? = some o := by subst h; show (w.heap.push o)[w.heap.size]? = _; simp
/-- four cells written into a row -/
theorem set4_old {ys : List Value} {p : Nat} {a b c d : Value} {i : Nat} (h : i < p ∨ p + 4 ≤ i) : ((((ys.set p a).set (p + 1) b).set (p + 2) c).set (p + 3) d)[i]? = ys[i]? := by
 rw [List.getElem?_set_ne (by omega), List.getElem?_set_ne (by omega), List.getElem?_set_ne (by omega), List.getElem?_set_ne (by omega)]
theorem set4_new {ys : List Value} {p : Nat} {a b c d : Value} (h : p + 4 ≤ ys.length) : ((((ys.set p a).set (p + 1) b).set (p + 2) c).set (p + 3) d)[p]? = some a ∧ ((((ys.set p a).set (p + 1) b).set (p + 2) c).set (p + 3) d)[p + 1]? = some b ∧
  ((((ys.set p a).set (p + 1) b).set (p + 2) c).set (p + 3) d)[p + 2]? = some c ∧ ((((ys.set p a).set (p + 1) b).set (p + 2) c).set (p + 3) d)[p + 3]? = some d := by
 refine ⟨?_, ?_, ?_, ?_⟩
 ·rw [List.getElem?_set_ne (by omega), List.getElem?_set_ne (by omega), List.getElem?_set_ne (by omega), List.getElem?_set_self (by omega)]
 ·rw [List.getElem?_set_ne (by omega), List.getElem?_set_ne (by omega), List.getElem?_set_self (by simp; omega)]
 ·rw [List.getElem?_set_ne (by omega), List.getElem?_set_self (by simp; omega)]
 ·rw [List.getElem?_set_self (by simp; omega)]
theorem flatMap_same {l : List Nat} {f g : Nat → List Nat} (h : ∀ a ∈ l, f a = g a) : l.flatMap f = l.flatMap g := by
 rw [List.flatMap_def, List.flatMap_def, List.map_congr_left h]
/-- one element's three plain cells and its row -/
def Cells4 (ys : List Value) (j : Nat) (t : TermM) (v : Value) : Prop := ys[j * 4]? = some (.int .i64 t.op) ∧ ys[j * 4 + 1]? = some (.string (bstr t.name)) ∧ ys[j * 4 + 2]? = some (.int .i64 t.sort) ∧ ys[j * 4 + 3]? = some v
def Bnd (t : TermM) : Prop := t.name.length ≤ maxLen ∧ I64 t.op ∧ I64 t.sort
/-- the first j elements of a row are written, each with a row of its own -/
def Part (T : TypeId) (n B : Nat) (w : World) (ys : List Value) (L : List TermM) (j : Nat) : Prop :=
 ∃ (vs : Nat → Value) (Ss : Nat → List Nat), ((List.range j).flatMap Ss).Nodup ∧ ∀ i, i < j → Cells4 ys i (L.getD i default) (vs i) ∧ Bnd (L.getD i default) ∧ OT T n B w (vs i) (L.getD i default).args (Ss i)
theorem Part.zero (T : TypeId) (n B : Nat) (w : World) (ys : List Value) (L : List TermM) : Part T n B w ys L 0 := ⟨fun _ => undef, fun _ => [], by simp, fun i hi => by omega⟩
theorem Part.step {T : TypeId} {n B : Nat} {w w2 w3 : World} {ys : List Value} {L : List TermM} {j g : Nat} {v2 : Value} {S2 : List Nat} {t : TermM} (h : Part T n B w ys L j) (ht : t = L.getD j default) (hb : Below w.heap.size w w2)
  (ho : OT T n w.heap.size w2 v2 t.args S2) (hB : B ≤ w.heap.size) (hc : Chg [g] w2 w3) (hg : g < B) (hl : j * 4 + 4 ≤ ys.length) (hbd : Bnd t) :
  Part T n B w3 ((((ys.set (j * 4) (.int .i64 t.op)).set (j * 4 + 1) (.string (bstr t.name))).set (j * 4 + 2) (.int .i64 t.sort)).set (j * 4 + 3) v2) L (j + 1) := by
 subst ht
 obtain ⟨vs, Ss, hnd, hi⟩ := h
 refine ⟨fun i => if i = j then v2 else vs i, fun i => if i = j then S2 else Ss i, ?_, fun i hij => ?_⟩
 ·rw [List.range_succ, List.flatMap_append, flatMap_same (g := Ss) (fun a ha => by rw [if_neg (by have := List.mem_range.1 ha; omega)])]
  simp only [List.flatMap_cons, List.flatMap_nil, List.append_nil, if_pos]
  refine List.nodup_append.2 ⟨hnd, ho.nodup, fun a ha b hb2 e => ?_⟩
  obtain ⟨q, hq, haq⟩ := List.mem_flatMap.1 ha
  have h1 := ((hi q (List.mem_range.1 hq)).2.2.lt a haq).2
  have h2 := (ho.lt b hb2).1
  omega
 ·show Cells4 _ i _ (if i = j then v2 else vs i) ∧ _ ∧ OT T n B w3 (if i = j then v2 else vs i) _ (if i = j then S2 else Ss i)
  by_cases e : i = j
  ·subst e
   obtain ⟨a, b, c, d⟩ := set4_new (a := .int .i64 (L.getD i default).op) (b := .string (bstr (L.getD i default).name)) (c := .int .i64 (L.getD i default).sort) (d := v2) hl
   refine ⟨⟨a, b, c, by rw [if_pos rfl]; exact d⟩, hbd, ?_⟩
   rw [if_pos rfl, if_pos rfl]
   exact (ho.chg hc (fun k hk => by have := (ho.lt k hk).1; simp; omega)).mono hB
  ·obtain ⟨⟨a, b, c, d⟩, hbd2, h3⟩ := hi i (by omega)
   rw [if_neg e, if_neg e]
   refine ⟨⟨?_, ?_, ?_, ?_⟩, hbd2, ?_⟩
   ·rw [set4_old (by omega)]; exact a
   ·rw [set4_old (by omega)]; exact b
   ·rw [set4_old (by omega)]; exact c
   ·rw [set4_old (by omega)]; exact d
   ·exact (h3.below hb).chg hc (fun k hk => by have := (h3.lt k hk).1; simp; omega)
theorem Part.done {T : TypeId} {n B lo : Nat} {w : World} {ys : List Value} {L : List TermM} {v : Value} (h : Part T n B w ys L L.length) (ho : w.ownsRow lo T 4 v L.length ys) (hv : ∀ g, v.ownBlock = some g → g < B) (hB : lo ≤ B) : ∃ S, OT T (n + 1) lo w v L S := by
 obtain ⟨vs, Ss, hnd, hi⟩ := h
 refine ⟨_, ys, vs, Ss, ho, rfl, ?_, fun j hj => ⟨(hi j hj).1, (hi j hj).2.1, (hi j hj).2.2.mono hB⟩⟩
 refine List.nodup_append.2 ⟨?_, hnd, fun a ha b hb2 e => ?_⟩
 ·cases v.ownBlock <;> simp
 ·obtain ⟨q, hq, hbq⟩ := List.mem_flatMap.1 hb2
  have h1 := ((hi q (List.mem_range.1 hq)).2.2.lt b hbq).1
  have h2 := hv a (by simpa using ha)
  omega
theorem chg_set1 {w w' : World} {g : Nat} (h : Chg [g] w w') (j : Nat) (u : Value) : Chg [g] w (w'.setCell ⟨g, j, none⟩ u) := h.trans (Chg.set (by simp) u)
theorem info_term : (Tryz.prog.info? 34).map (fun i => (i.zero, i.size, i.bytes)) = some (some (.agg #[.int .i64 0, .string { data := #[] }, .int .i64 0, .slice none 0 0]), 4, 56) := by kernel_rfl
/-- laws.toTermS, at terms of at most this depth -/
def ToS (n : Nat) : Prop := ∀ (L : List TermM) (v : Value) (w : World) (lo : Nat), HasTs n lo w v L → sizes L ≤ 1048576 →
 Calls Tryz.prog 10 #[v] w fun e w' => ∃ v' S, e = .returned v' ∧ OT 34 (n + 1) w.heap.size w' v' L S ∧ Below w.heap.size w w'
theorem OT.shape {T : TypeId} {n lo : Nat} {w : World} {v : Value} {L : List TermM} {S : List Nat} (h : OT T (n + 1) lo w v L S) : ∃ A c, v = .slice A L.length c := by
 obtain ⟨xs, vs, Ss, ho, _⟩ := h
 obtain ⟨A, c, e, _⟩ := own_slice ho
 exact ⟨A, c, e⟩
/-- laws.toTerm -/
theorem toTerm_of {n : Nat} (hT : ToS n) (op : Int) (l : List UInt8) (s : Int) (L : List TermM) (hL : sizes L ≤ 1048576) (va : Value) (w : World) {lo : Nat} (h : HasTs n lo w va L) :
  Calls Tryz.prog 21 #[.agg #[.int .i64 op, .string (bstr l), .int .i64 s, va]] w fun e w' => ∃ v S, e = .returned (.agg #[.int .i64 op, .string (bstr l), .int .i64 s, v]) ∧ OT 34 (n + 1) w.heap.size w' v L S ∧ Below w.heap.size w w' := by
 have HSA := Lib.hid (fun W (hW : Below w.heap.size w W) => hT L va W lo (h.below (Nat.le_refl _) hW) hL)
 obtain ⟨A, ca, rfl, h'⟩ := HasR.shape h rfl
 obtain ⟨k, hk⟩ : ∃ k, k = L.length := ⟨_, rfl⟩
 have HN := Lib.hid hk
 rw [← hk] at HSA ⊢
 clear h h' hk
 go_enter Tryz.func21, Tryz.ntmps21
 go_wp2_with fail
 refine (HSA.out _ ?_).mono ?_
 ·repeat (first | exact Below.refl _ _ | refine Below.setCell ?_ (by first | (simp; done) | (simp; omega)) _ | refine Below.alloc ?_ (by first | (simp; done) | (simp; omega)) _)
 rintro e w1 ⟨v1, S1, rfl, hh1, hb1⟩
 obtain ⟨A1, c1, rfl⟩ := OT.shape hh1
 rw [← HN.out] at hh1 ⊢
 have HO1 := Lib.hid (hh1.mono (lo' := w.heap.size + 1 + 1 + 1) (by simp))
 have hk1 : w1.heap[w.heap.size + 1]? = some (.cells #[.int .i64 0, .string { data := #[] }, .int .i64 0, .slice none 0 0] 34 (0, 0)) := by
  rw [hb1.block _ (by simp)]; exact (Below.heap_alloc _ _ _ (by simp)).trans (heap_at _ _ _ (by simp))
 have d0 : w1.cell? ⟨w.heap.size + 1, 0, none⟩ = some (.int .i64 0) := cell_of_row w1 _ 0 _ _ _ hk1
 have d1 : w1.cell? ⟨w.heap.size + 1, 1, none⟩ = some (.string { data := #[] }) := cell_of_row w1 _ 1 _ _ _ hk1
 have d2 : w1.cell? ⟨w.heap.size + 1, 2, none⟩ = some (.int .i64 0) := cell_of_row w1 _ 2 _ _ _ hk1
 have d3 : w1.cell? ⟨w.heap.size + 1, 3, none⟩ = some (.slice none 0 0) := cell_of_row w1 _ 3 _ _ _ hk1
 have e0 := frozen_of_row w1 _ 0 _ _ hk1
 have e1 := frozen_of_row w1 _ 1 _ _ hk1
 have e2 := frozen_of_row w1 _ 2 _ _ hk1
 have e3 := frozen_of_row w1 _ 3 _ _ hk1
 have hbw : Below w.heap.size w w1 := by
  refine Below.trans ?_ (hb1.mono ?_)
  ·repeat (first | exact Below.refl _ _ | refine Below.setCell ?_ (by first | (simp; done) | (simp; omega)) _ | refine Below.alloc ?_ (by first | (simp; done) | (simp; omega)) _)
  ·simp; omega
 obtain ⟨hc1, hf1⟩ := bcell hb1
 have hz : w.heap.size + 2 < w1.heap.size := by have := hb1.size; simp at this; omega
 clear hh1 hk1 hb1
 go_wp2
 refine bodyPost_ret (v := .agg #[.int .i64 op, .string (bstr l), .int .i64 s, .slice A1 k c1]) (by simp [results, Tryz.results21, go_sem, d0, d1, d2, d3]) rfl ⟨_, S1, rfl, ?_, ?_⟩
 ·refine OT.mono (lo := w.heap.size + 1 + 1 + 1) ?_ (by omega)
  refine HO1.out.chg (S' := [w.heap.size + 1, w.heap.size + 2]) ?_ (fun q hq => by have := (HO1.out.lt q hq).1; simp; omega)
  refine Chg.trans ?_ (Chg.set (by simp) _)
  repeat (refine Chg.trans ?_ (Chg.set (by simp) _))
  exact Chg.refl _ _
 ·repeat (refine Below.setCell ?_ (by first | (simp; done) | (simp; omega)) _)
  exact hbw
theorem toS_step {n : Nat} (hS : ∀ k, n = k + 1 → ToS k) : ToS n := by
 intro L v w lo h hsz
 obtain ⟨N, hN⟩ : ∃ N, N = L.length := ⟨_, rfl⟩
 obtain ⟨A, c, rfl, h⟩ := HasR.shape h hN.symm
 obtain ⟨i0, hi, hz0, hz1, hz2⟩ := info_parts info_term
 have hn2 : N ≤ 1048576 := by have := sizes_len L; omega
 have HH := Lib.hid h
 have HN := Lib.hid hN
 have HS := Lib.hid hS
 have HSZ := Lib.hid hsz
 clear h hN hS hsz
 go_enter Tryz.func10, Tryz.ntmps10
 go_wp2_with (at_make; refine wpList_make_full _ rfl _ _ 32 rfl w.heap.size 34 i0 _ 4 Tryz.underlying32 hi hz0 hz1 _ _ _ _ N rfl rfl rfl rfl (by rw [hz2]; omega) (by unfold maxLen; omega) (Nat.le_refl _) ?_)
 intro w1 hown hgrow
 have hsz1 : w.heap.size < w1.heap.size := by
  rcases hown.2 with ⟨hv, _⟩ | ⟨g, cap, cur, hv, hb, hg, _⟩
  ·cases hv
  ·have := (Array.getElem?_eq_some_iff.1 hg).1; omega
 go_wp2
 go_loopw [4] (fun i wr => ∃ (j : Nat) (ys : List Value), j ≤ N ∧ i = .int .i64 j ∧ wr.ownsRow w.heap.size 34 4 (.slice (some ⟨w.heap.size, 0, none⟩) N N) N ys ∧
   Hid (Part 34 n (w.heap.size + 1) wr ys L j) ∧ w.heap.size < wr.heap.size ∧ Below w.heap.size w wr) (fun i _ => N - (intOf i).toNat)
 case atStart => exact ⟨0, _, Nat.zero_le _, rfl, hown, Lib.hid (Part.zero _ _ _ _ _ _), hsz1, (Below.refl _ _).grown hgrow (Nat.le_refl _) (by intro k h; cases h)⟩
 case round =>
  obtain ⟨j, ys, hj, rfl, hown, HY, hsz, hbel⟩ := hrel
  by_cases hlt : j < N
  ·obtain ⟨k', g, o, A2, c2, hnk, rfl, _, hg, hc0, hc1, hc2, hc3, hh, hbd⟩ := term_at HH.out hlt
   rw [← hbel.cell (p := ⟨g, o + j * 4, none⟩) hg] at hc0
   rw [← hbel.cell (p := ⟨g, o + j * 4 + 1, none⟩) hg] at hc1
   rw [← hbel.cell (p := ⟨g, o + j * 4 + 2, none⟩) hg] at hc2
   rw [← hbel.cell (p := ⟨g, o + j * 4 + 3, none⟩) hg] at hc3
   have hh2 := hh.below (Nat.le_refl _) hbel
   have hse : sizes (L.getD j default).args ≤ 1048576 := by
    have h1 := HSZ.out
    have h2 := size_le_sizes (l := L) (j := j) (by have := HN.out; omega)
    rw [← (L.getD j default).eta, size_mk] at h2
    omega
   obtain ⟨t, ht⟩ : ∃ t, t = L.getD j default := ⟨_, rfl⟩
   rw [← ht] at hc0 hc1 hc2 hc3 hh2 hbd hse
   have HT := Lib.hid (hnk ▸ toTerm_of (HS.out k' hnk) t.op t.name t.sort t.args hse _ wr hh2 : Calls Tryz.prog 21 _ wr fun e w' => ∃ v S, e = .returned (.agg #[.int .i64 t.op, .string (bstr t.name), .int .i64 t.sort, v]) ∧ OT 34 n wr.heap.size w' v t.args S ∧ Below wr.heap.size wr w')
   have HX := Lib.hid ht
   have HB := Lib.hid hbd
   have HOWN := Lib.hid hown
   obtain ⟨q, hq⟩ : ∃ q, q = t.args.length := ⟨_, rfl⟩
   obtain ⟨op, hop⟩ : ∃ x, x = t.op := ⟨_, rfl⟩
   obtain ⟨nm, hnm⟩ : ∃ x, x = t.name := ⟨_, rfl⟩
   obtain ⟨so, hso⟩ : ∃ x, x = t.sort := ⟨_, rfl⟩
   rw [← hq] at hc3 HT
   rw [← hop] at hc0 HT
   rw [← hnm] at hc1 HT
   rw [← hso] at hc2 HT
   have HE := Lib.hid (And.intro hop (And.intro hnm hso))
   have HK := Lib.hid hnk
   have HQ := Lib.hid hq
   clear hh hh2 ht hown hbd hq hop hnm hso hnk hse
   go_wp2_with fail
   refine (HT.out).mono ?_
   rintro e w2 ⟨v2, S2, rfl, hv2, hb2⟩
   have HO2 := Lib.hid (own_below HOWN.out hb2)
   have HV := Lib.hid hv2
   have HB2 := Lib.hid hb2
   obtain ⟨⟨v0, hw0⟩, hf0⟩ := own_get HO2.out (i := j * 4) (by omega)
   obtain ⟨⟨v1, hw1⟩, hf1⟩ := own_get HO2.out (i := j * 4 + 1) (by omega)
   obtain ⟨⟨v2', hw2⟩, hf2⟩ := own_get HO2.out (i := j * 4 + 2) (by omega)
   obtain ⟨⟨v3, hw3⟩, hf3⟩ := own_get HO2.out (i := j * 4 + 3) (by omega)
   obtain ⟨A3, c3, hsl⟩ : ∃ A c, v2 = .slice A t.args.length c := by
    have h := hv2
    rw [HK.out] at h
    exact OT.shape h
   rw [← HQ.out] at hsl
   subst hsl
   clear hv2
   go_wp2
   go_roundw
   case rel =>
    refine ⟨j + 1, _, by omega, by go_num, setCell_own (setCell_own (setCell_own (setCell_own HO2.out (j * 4) _) (j * 4 + 1) _) (j * 4 + 2) _) (j * 4 + 3) _, Lib.hid ?_, by simp [World.setCell]; have := hb2.size; omega, ((((hbel.trans (hb2.mono hbel.size)).setCell (Nat.le_refl _) _).setCell (Nat.le_refl _) _).setCell (Nat.le_refl _) _).setCell (Nat.le_refl _) _⟩
    have hlen : ys.length = N * 4 := by have := HOWN.out.1; omega
    obtain ⟨h1, h2, h3⟩ := HE.out
    rw [h1, h2, h3]
    exact Part.step HY.out HX.out HB2.out HV.out (by omega) (chg_set1 (chg_set1 (chg_set1 (chg_set1 (Chg.refl _ _) _ _) _ _) _ _) _ _) (Nat.lt_succ_self _) (by omega) HB.out
   case measure => simp [intOf]; omega
  ·obtain rfl : j = N := by omega
   have HW : Hid (∃ S, OT 34 (n + 1) w.heap.size wr (.slice (some ⟨w.heap.size, 0, none⟩) j j) L S) := Lib.hid (by
    have h1 := HY.out
    rw [HN.out] at h1 hown
    rw [HN.out]
    exact Part.done h1 hown (fun g hg => by simp [Value.ownBlock] at hg; omega) (by omega))
   clear hown
   go_wp2
   go_ret
   obtain ⟨S, hS⟩ := HW.out
   exact ⟨_, S, rfl, hS, hbel⟩
theorem toTermS_any : ∀ n, ToS n
 | 0 => toS_step (fun k h => by omega)
 | n + 1 => toS_step (fun k h => Nat.succ.inj h ▸ toTermS_any n)
end Go.Proofs.YtkkmjaggebjcbaaGreat.termt
/-
 THE ORDER OF SORTS AS A MAP: what a map of sets reads as, and the contracts of isIndex, areSubs, closePairs, haveCircle, hasSort.
-/
namespace Go.Proofs.YtkkmjaggebjcbaaGreat.sortp
open Go.ChangeShapes Go.WideShapes Go.ChangeAt Go.RowKit
open Go.Maps (Keyed)
open mem split strl subs sortn setm sets sortm

/-! ### valid pairs -/
def subOk (n : Nat) (p : Int × Int) : Bool := decide (0 ≤ p.1 ∧ p.1 < n) && decide (0 ≤ p.2 ∧ p.2 < n) && decide (p.1 ≠ p.2)
def subsTo (n : Nat) (Q : List (Int × Int)) (k : Nat) : Bool := (Q.take k).all (subOk n)
def subsOk (n : Nat) (Q : List (Int × Int)) : Bool := decide (Q.length ≤ 16) && Q.all (subOk n)
def prs (Q : List (Int × Int)) : List (Nat × Nat) := Q.map fun p => (p.1.toNat, p.2.toNat)
theorem prs_len (Q : List (Int × Int)) : (prs Q).length = Q.length := by simp [prs]
theorem prs_get (Q : List (Int × Int)) (k : Nat) : (prs Q).getD k (0, 0) = ((Q.getD k (0, 0)).1.toNat, (Q.getD k (0, 0)).2.toNat) := by
 by_cases h : k < Q.length
 ·simp [prs, List.getD, List.getElem?_eq_getElem h]
 ·simp [prs, List.getD, List.getElem?_eq_none (Nat.le_of_not_lt h)]
theorem subsTo_succ (n : Nat) (Q : List (Int × Int)) (k : Nat) (h : k < Q.length) : subsTo n Q (k + 1) = (subsTo n Q k && subOk n (Q.getD k (0, 0))) := by
 rw [subsTo, takeP Q k h, List.all_append]; simp [subsTo]
theorem subs_bad (n : Nat) (Q : List (Int × Int)) (k : Nat) (h : k < Q.length) (hb : subOk n (Q.getD k (0, 0)) = false) : Q.all (subOk n) = false := by
 simp only [List.all_eq_false]
 exact ⟨Q[k], List.getElem_mem h, by simpa [List.getD, List.getElem?_eq_getElem h] using hb⟩
/-- all pairs lie in range (they may be equal) -/
def PIn (n : Nat) (Q : List (Int × Int)) : Prop := ∀ p ∈ Q, (0 ≤ p.1 ∧ p.1 < n) ∧ (0 ≤ p.2 ∧ p.2 < n)
theorem PIn.get {n : Nat} {Q : List (Int × Int)} (h : PIn n Q) {k : Nat} (hk : k < Q.length) : (0 ≤ (Q.getD k (0, 0)).1 ∧ (Q.getD k (0, 0)).1 < n) ∧ (0 ≤ (Q.getD k (0, 0)).2 ∧ (Q.getD k (0, 0)).2 < n) := by
 have := h _ (List.getElem_mem hk)
 simpa [List.getD, List.getElem?_eq_getElem hk] using this
theorem PIn.inR {n : Nat} {Q : List (Int × Int)} (h : PIn n Q) : InR n (prs Q) := by
 intro p hp
 obtain ⟨q, hq, rfl⟩ := List.mem_map.1 hp
 have := h q hq
 exact ⟨by show q.1.toNat < n; omega, by show q.2.toNat < n; omega⟩
theorem subsOk_pin {n : Nat} {Q : List (Int × Int)} (h : subsOk n Q = true) : PIn n Q ∧ Q.length ≤ 16 := by
 simp only [subsOk, subOk, Bool.and_eq_true, decide_eq_true_eq, List.all_eq_true] at h
 exact ⟨fun p hp => ⟨(h.2 p hp).1.1, (h.2 p hp).1.2⟩, h.1⟩
def circ (n : Nat) (U : List Nat) : Bool := (List.range n).any fun h => (List.range h).any fun l => (U.getD l 0).testBit h && (U.getD h 0).testBit l
theorem circ_true {n : Nat} {U : List Nat} {h l : Nat} (hh : h < n) (hl : l < h) (h1 : (U.getD l 0).testBit h = true) (h2 : (U.getD h 0).testBit l = true) : circ n U = true := by
 simp only [circ, List.any_eq_true, List.mem_range, Bool.and_eq_true]
 exact ⟨h, hh, l, hl, h1, h2⟩
theorem circ_false {n : Nat} {U : List Nat} (h : ∀ h l, h < n → l < h → ¬ ((U.getD l 0).testBit h = true ∧ (U.getD h 0).testBit l = true)) : circ n U = false := by
 cases hc : circ n U with
 | false => rfl
 | true =>
  simp only [circ, List.any_eq_true, List.mem_range, Bool.and_eq_true] at hc
  obtain ⟨a, ha, b, hb, h1, h2⟩ := hc
  exact absurd ⟨h1, h2⟩ (h a b ha hb)
def okS (P : List (List UInt8)) (Q : List (Int × Int)) : Bool := namesOk P && subsOk P.length Q && !circ P.length (clo P.length (prs Q))
theorem okS_parts {P : List (List UInt8)} {Q : List (Int × Int)} (h : okS P Q = true) : 1 ≤ P.length ∧ P.length ≤ 8 ∧ PIn P.length Q ∧ Q.length ≤ 16 ∧ circ P.length (clo P.length (prs Q)) = false := by
 simp only [okS, namesOk, Bool.and_eq_true, decide_eq_true_eq, Bool.not_eq_true'] at h
 obtain ⟨⟨⟨h1, _⟩, h2⟩, h3⟩ := h
 obtain ⟨h4, h5⟩ := subsOk_pin h2
 exact ⟨h1.1, h1.2, h4, h5, h3⟩

/-! ### maps of sets -/
theorem mlaw : Keyed Tryz.prog 3 := Maps.int_keyed Tryz.underlying3
theorem mzero (w : World) : (zeroValue 132).run Tryz.prog w = .ok (.int .u16 0) w := by kernel_rfl
def lk (x : Int) : Lit := .int .i64 x
def lv (n : Nat) : DataW Unit := .lit (.int .u16 (n : Int))
/-- D reads as the list U: the keys are the numbers below its length -/
def Fits (D : DataW Unit) (U : List Nat) : Prop :=
 Maps.Tidy D ∧ Maps.size D = U.length ∧ (∀ i : Nat, i < U.length → Maps.has D (lk i) = true ∧ ∀ z, D.atKey (lk i) z = lv (U.getD i 0)) ∧ ∀ x : Int, ¬ (0 ≤ x ∧ x < U.length) → Maps.has D (lk x) = false
theorem lk_key (x : Int) : WideAt.IsKeyLit (lk x) := trivial
theorem lk_ne {x y : Int} (h : x ≠ y) : lk x ≠ lk y := fun e => h (by simpa [lk] using e)
theorem fits_nil : Fits (.map []) [] := ⟨Maps.tidy_empty, rfl, fun i h => by simp at h, fun x _ => rfl⟩
theorem fits_push {D : DataW Unit} {U : List Nat} (h : Fits D U) (v : Nat) : Fits (D.put (lk U.length) (lv v)) (U ++ [v]) := by
 obtain ⟨h1, h2, h3, h4⟩ := h
 have hno : Maps.has D (lk U.length) = false := h4 _ (by omega)
 refine ⟨h1.put (lk_key _) _, ?_, fun i hi => ?_, fun x hx => ?_⟩
 ·rw [Maps.size_put h1, hno, h2]; simp
 ·by_cases hi2 : i = U.length
  ·subst hi2
   refine ⟨Maps.has_put_same h1.isMap (lk_key _) _, fun z => ?_⟩
   rw [Maps.atKey_put_same h1.isMap (lk_key _)]; simp [List.getD]
  ·have hne : lk (i : Int) ≠ lk (U.length : Int) := lk_ne (by omega)
   have hlt : i < U.length := by simp at hi; omega
   refine ⟨by rw [Maps.has_put_other hne]; exact (h3 i hlt).1, fun z => ?_⟩
   rw [Maps.atKey_put_other hne, (h3 i hlt).2 z]; simp [List.getD, List.getElem?_append_left hlt]
 ·simp at hx
  rw [Maps.has_put_other (lk_ne (by omega))]
  exact h4 x (by omega)
theorem fits_set {D : DataW Unit} {U : List Nat} (h : Fits D U) (k : Nat) (hk : k < U.length) (v : Nat) : Fits (D.put (lk k) (lv v)) (U.set k v) := by
 obtain ⟨h1, h2, h3, h4⟩ := h
 refine ⟨h1.put (lk_key _) _, ?_, fun i hi => ?_, fun x hx => ?_⟩
 ·rw [Maps.size_put h1, (h3 k hk).1, h2]; simp
 ·rw [List.length_set] at hi
  rw [getD_set _ _ hk]
  by_cases hi2 : i = k
  ·subst hi2
   rw [if_pos rfl]
   exact ⟨Maps.has_put_same h1.isMap (lk_key _) _, fun z => Maps.atKey_put_same h1.isMap (lk_key _) _ _⟩
  ·have hne : lk (i : Int) ≠ lk (k : Int) := lk_ne (by omega)
   rw [if_neg hi2]
   exact ⟨by rw [Maps.has_put_other hne]; exact (h3 i hi).1, fun z => by rw [Maps.atKey_put_other hne]; exact (h3 i hi).2 z⟩
 ·rw [List.length_set] at hx
  rw [Maps.has_put_other (lk_ne (by omega))]
  exact h4 x hx
/-- v is a map (nil let in) that reads as U -/
def MapU (w : World) (v : Value) (U : List Nat) : Prop :=
 (v = .map none ∧ U = []) ∨ ∃ b n D, v = .map (some b) ∧ w.ownsMap Tryz.prog 3 (plainElem (H := Unit) Tryz.prog 132) b n D ∧ Fits D U
def atU (U : List Nat) (x : Int) : Nat := if 0 ≤ x then U.getD x.toNat 0 else 0
theorem atU_nat (U : List Nat) (k : Nat) : atU U (k : Int) = U.getD k 0 := by simp [atU]
theorem atU_out (U : List Nat) (x : Int) (h : ¬ (0 ≤ x ∧ x < U.length)) : atU U x = 0 := by
 unfold atU
 split
 ·rw [List.getD, List.getElem?_eq_none (by omega)]; rfl
 ·rfl
theorem fits_at {D : DataW Unit} {U : List Nat} (h : Fits D U) (x : Int) : D.atKey (lk x) (lv 0) = lv (atU U x) := by
 obtain ⟨h1, h2, h3, h4⟩ := h
 by_cases hx : 0 ≤ x ∧ x < U.length
 ·have e : x = ((x.toNat : Nat) : Int) := by omega
  rw [e, (h3 x.toNat (by omega)).2, atU_nat]
 ·rw [Maps.atKey_of_not_has (h4 x hx), atU_out U x hx]
theorem fits_has {D : DataW Unit} {U : List Nat} (h : Fits D U) (x : Int) : Maps.has D (lk x) = decide (0 ≤ x ∧ x < U.length) := by
 obtain ⟨h1, h2, h3, h4⟩ := h
 by_cases hx : 0 ≤ x ∧ x < U.length
 ·have e : x = ((x.toNat : Nat) : Int) := by omega
  rw [e, (h3 x.toNat (by omega)).1]
  simp; omega
 ·rw [h4 x hx]; simp; omega
theorem key_int {x : Int} (h1 : -9223372036854775808 ≤ x) (h2 : x ≤ 9223372036854775807) : keyOf Tryz.prog 3 (.int .i64 x) = some (lk x) := Maps.keyOf_int_mk Tryz.underlying3 (WalkArith.wf_i64 (by omega))
theorem MapU.look {w : World} {v : Value} {U : List Nat} (h : MapU w v U) {x : Int} (h1 : -9223372036854775808 ≤ x) (h2 : x ≤ 9223372036854775807) :
  (Instr.lookup 75 v (.int .i64 x) false).run Tryz.prog w = .ok (.int .u16 ((atU U x : Nat) : Int)) w := by
 rcases h with ⟨rfl, rfl⟩ | ⟨b, n, D, rfl, hown, hF⟩
 ·rw [Maps.look_nil false mlaw Tryz.underlying75 (mzero w) (key_int h1 h2)]
  simp [atU]
 ·obtain ⟨c, hrun, hat, hwc⟩ := hown.lookup_int mlaw Tryz.underlying75 Tryz.underlying132 (mzero w) (key_int h1 h2)
  rw [hrun]
  have := (fits_at hF x).symm.trans hat
  simp only [lv, DataW.lit.injEq, Lit.int.injEq, true_and] at this
  rw [this]
theorem MapU.look_ok {w : World} {v : Value} {U : List Nat} (h : MapU w v U) {x : Int} (h1 : -9223372036854775808 ≤ x) (h2 : x ≤ 9223372036854775807) :
  (Instr.lookup 75 v (.int .i64 x) true).run Tryz.prog w = .ok (.tuple #[.int .u16 ((atU U x : Nat) : Int), .bool (decide (0 ≤ x ∧ x < U.length))]) w := by
 rcases h with ⟨rfl, rfl⟩ | ⟨b, n, D, rfl, hown, hF⟩
 ·rw [Maps.look_nil true mlaw Tryz.underlying75 (mzero w) (key_int h1 h2)]
  have : decide (0 ≤ x ∧ x < (([] : List Nat).length : Int)) = false := by first | (simp; done) | (simp; omega)
  rw [this]
  simp [atU]
 ·obtain ⟨v, ps, hrun, hv⟩ := hown.look_ok mlaw Tryz.underlying75 (mzero w) (plainElem_int Tryz.underlying132 (by decide)) (key_int h1 h2)
  obtain ⟨c, rfl, hc, hwc⟩ := plainElem_int_inv Tryz.underlying132 hv
  rw [hrun, fits_has hF]
  have := (fits_at hF x).symm.trans (congrArg Prod.fst hc)
  simp only [lv, DataW.lit.injEq, Lit.int.injEq, true_and] at this
  rw [this]
theorem MapU.len {w : World} {v : Value} {U : List Nat} (h : MapU w v U) (ty : TypeId) : (Builtin.len_ #[75] ty #[v]).run Tryz.prog w = .ok (.int .i64 (U.length : Nat)) w := by
 rcases h with ⟨rfl, rfl⟩ | ⟨b, n, D, rfl, hown, hF⟩
 ·rw [Maps.len_nil Tryz.underlying75]; rfl
 ·rw [hown.len Tryz.underlying75, hF.2.1]
theorem owns_below {w w' : World} {P : Program} {k : TypeId} {R : Value → Option (DataW Unit × List MemPlace)} {b n : Nat} {D : DataW Unit} (h : w.ownsMap P k R b n D) (hb : Below w.heap.size w w') : w'.ownsMap P k R b n D :=
 h.kept (row := none) ⟨hb.os, hb.tape, hb.output, hb.size, fun k hk _ => hb.block k hk⟩ (by simp)
theorem MapU.below {w w' : World} {v : Value} {U : List Nat} (h : MapU w v U) (hb : Below w.heap.size w w') : MapU w' v U := by
 rcases h with ⟨rfl, rfl⟩ | ⟨b, n, D, rfl, hown, hF⟩
 ·exact .inl ⟨rfl, rfl⟩
 ·exact .inr ⟨b, n, D, rfl, owns_below hown hb, hF⟩
/-- impl.isIndex -/
theorem isIndex_any (x : Int) (n : Nat) (r : Bool) (hr : decide (0 ≤ x ∧ x < n) = r) (w : World) :
  Calls Tryz.prog 128 #[.int .i64 x, .int .i64 n] w fun e w' => e = .returned (.bool r) ∧ w = w' := by
 have HR := Lib.hid hr
 clear hr
 by_cases h1 : 0 ≤ x
 ·by_cases h2 : x < n
  ·have HQ : Hid (r = true) := Lib.hid (by rw [← HR.out]; simp; omega)
   go_enter Tryz.func128, Tryz.ntmps128
   go_wp2
   go_ret
   exact ⟨ret_bool (by first | exact HQ.out.symm | (rw [HQ.out]; simp; omega)), rfl⟩
  ·have HQ : Hid (r = false) := Lib.hid (by rw [← HR.out]; simp; omega)
   go_enter Tryz.func128, Tryz.ntmps128
   go_wp2
   go_ret
   exact ⟨ret_bool (by first | exact HQ.out.symm | (rw [HQ.out]; simp; omega)), rfl⟩
 ·have HQ : Hid (r = false) := Lib.hid (by rw [← HR.out]; simp; omega)
  go_enter Tryz.func128, Tryz.ntmps128
  go_wp2
  go_ret
  exact ⟨ret_bool (by first | exact HQ.out.symm | (rw [HQ.out]; simp; omega)), rfl⟩
/-- impl.areSubs -/
theorem areSubs_any (n : Nat) (_hn : n ≤ 1000) (Q : List (Int × Int)) (h64 : In64 Q) (v : Value) (r : Bool) (hr : subsOk n Q = r) (w : World) (h : HasP w v Q) :
  Calls Tryz.prog 147 #[v, .int .i64 n] w fun e w' => e = .returned (.bool r) ∧ Below w.heap.size w w' := by
 obtain ⟨m, hm⟩ : ∃ m, m = Q.length := ⟨_, rfl⟩
 obtain ⟨A, c, rfl, h⟩ := h.shape hm.symm
 have hl := h.len.2
 have HH := Lib.hid h
 have HR := Lib.hid hr
 have HM := Lib.hid hm
 have H64 := Lib.hid h64
 clear h hr hm h64
 by_cases hbig : 16 < m
 ·have HQ : Hid (r = false) := Lib.hid (by rw [← HR.out]; have := HM.out; simp [subsOk]; omega)
  go_enter Tryz.func147, Tryz.ntmps147
  go_wp2
  go_ret
  exact ⟨ret_bool HQ.out.symm, Below.refl _ _⟩
 ·have hdb : decide ((16 : Int) < (m : Int)) = false := by simp; omega
  go_enter Tryz.func147, Tryz.ntmps147
  go_wp2
  go_loopw [6, 12] (fun _ i wr => ∃ k : Nat, k ≤ m ∧ i = .int .i64 k ∧ Hid (subsTo n Q k = true) ∧ Below w.heap.size w wr) (fun _ i _ => m - (intOf i).toNat)
  case atStart => exact ⟨0, Nat.zero_le _, rfl, Lib.hid rfl, Below.refl _ _⟩
  case round =>
   obtain ⟨k, hk, rfl, HX, hbel⟩ := hrel
   by_cases hlt : k < m
   ·obtain ⟨g, o, rfl, hg, hcell, hcell2⟩ := HH.out.cellAt hlt
    rw [← hbel.cell (p := ⟨g, o + k * 2, none⟩) hg] at hcell
    rw [← hbel.cell (p := ⟨g, o + k * 2 + 1, none⟩) hg] at hcell2
    have hin := H64.out.get k
    have HB : Hid (subOk n (Q.getD k (0, 0)) = false → r = false) := Lib.hid (by intro h; rw [← HR.out, subsOk, subs_bad n Q k (by have := HM.out; omega) h]; simp)
    have HG : Hid (subOk n (Q.getD k (0, 0)) = true → subsTo n Q (k + 1) = true) := Lib.hid (by intro h; rw [subsTo_succ n Q k (by have := HM.out; omega), HX.out, h]; rfl)
    have HS : Hid (subOk n (Q.getD k (0, 0)) = (decide (0 ≤ (Q.getD k (0, 0)).1 ∧ (Q.getD k (0, 0)).1 < n) && decide (0 ≤ (Q.getD k (0, 0)).2 ∧ (Q.getD k (0, 0)).2 < n) && decide ((Q.getD k (0, 0)).1 ≠ (Q.getD k (0, 0)).2))) := Lib.hid rfl
    obtain ⟨s, hs⟩ : ∃ s, s = subOk n (Q.getD k (0, 0)) := ⟨_, rfl⟩
    rw [← hs] at HB HG HS
    obtain ⟨x, hx⟩ : ∃ x, x = (Q.getD k (0, 0)).1 := ⟨_, rfl⟩
    obtain ⟨y, hy⟩ : ∃ y, y = (Q.getD k (0, 0)).2 := ⟨_, rfl⟩
    rw [← hx, ← hy] at hin HS
    rw [← hx] at hcell
    rw [← hy] at hcell2
    clear hs hx hy
    cases h1 : decide (0 ≤ x ∧ x < (n : Int)) with
    | false =>
     have HI := Lib.hid (fun W => isIndex_any x n false h1 W)
     have HQ : Hid (r = false) := Lib.hid (HB.out (by rw [HS.out, h1]; rfl))
     clear h1
     go_wp2_with (go_at_call 128; refine (HI.out _).mono ?_; rintro e w1 ⟨rfl, rfl⟩)
     go_ret
     refine ⟨ret_bool HQ.out.symm, ?_⟩
     (repeat (first | exact hbel | refine Below.setCell ?_ (by first | exact hbel.size | (have := hbel.size; simp; omega)) _ | refine Below.alloc ?_ (by first | exact hbel.size | (have := hbel.size; simp; omega)) _))
    | true =>
     have HI := Lib.hid h1
     cases h2 : decide (0 ≤ y ∧ y < (n : Int)) with
     | false =>
      have HI2 := Lib.hid h2
      have HQ : Hid (r = false) := Lib.hid (HB.out (by rw [HS.out, h1, h2]; rfl))
      clear h1 h2
      go_wp2_with (go_at_call 128; refine (isIndex_any _ n _ (by first | exact HI.out | exact HI2.out) _).mono ?_; rintro e w1 ⟨rfl, rfl⟩)
      go_ret
      refine ⟨ret_bool HQ.out.symm, ?_⟩
      (repeat (first | exact hbel | refine Below.setCell ?_ (by first | exact hbel.size | (have := hbel.size; simp; omega)) _ | refine Below.alloc ?_ (by first | exact hbel.size | (have := hbel.size; simp; omega)) _))
     | true =>
      have HI2 := Lib.hid h2
      by_cases h3 : x = y
      ·have HQ : Hid (r = false) := Lib.hid (HB.out (by rw [HS.out, h1, h2, h3]; simp))
       have he : (x == y) = true := by simpa using h3
       clear h1 h2 h3
       go_wp2_with (go_at_call 128; refine (isIndex_any _ n _ (by first | exact HI.out | exact HI2.out) _).mono ?_; rintro e w1 ⟨rfl, rfl⟩)
       go_ret
       refine ⟨ret_bool HQ.out.symm, ?_⟩
       (repeat (first | exact hbel | refine Below.setCell ?_ (by first | exact hbel.size | (have := hbel.size; simp; omega)) _ | refine Below.alloc ?_ (by first | exact hbel.size | (have := hbel.size; simp; omega)) _))
      ·have HX2 : Hid (subsTo n Q (k + 1) = true) := Lib.hid (HG.out (by rw [HS.out, h1, h2]; simpa using h3))
       have he : (x == y) = false := by simpa using h3
       clear h1 h2 h3
       go_wp2_with (go_at_call 128; refine (isIndex_any _ n _ (by first | exact HI.out | exact HI2.out) _).mono ?_; rintro e w1 ⟨rfl, rfl⟩)
       go_roundw
       case rel =>
        refine ⟨k + 1, by omega, by go_num, HX2, ?_⟩
        (repeat (first | exact hbel | refine Below.setCell ?_ (by first | exact hbel.size | (have := hbel.size; simp; omega)) _ | refine Below.alloc ?_ (by first | exact hbel.size | (have := hbel.size; simp; omega)) _))
       case measure => simp [intOf]; omega
   ·obtain rfl : k = m := by omega
    have HQ : Hid (r = true) := Lib.hid (by
     rw [← HR.out, subsOk]
     have h := HX.out
     rw [subsTo, List.take_of_length_le (by have := HM.out; omega)] at h
     rw [h, ← HM.out]; simp; omega)
    go_wp2
    go_ret
    exact ⟨ret_bool HQ.out.symm, hbel⟩
/-- a look-up at the operation -/
theorem wpList_lookupU (w : World) {ops : Array Oper} {rest : List Oper} {o : Oper} {a : Act} {Q : Exit → Act → World → Prop}
  (hg : o.guard = none) (m x : Operand) (hop : o.op = Op.lookup 75 m x false) {v : Value} {U : List Nat} (hm : a.eval m = v) (hM : MapU w v U)
  (key : Int) (hx : a.eval x = .int .i64 key) (h1 : -9223372036854775808 ≤ key) (h2 : key ≤ 9223372036854775807)
  (hK : wpList Tryz.prog ops Q rest (a.put o.dst (.int .u16 ((atU U key : Nat) : Int))) w) : wpList Tryz.prog ops Q (o :: rest) a w := by
 refine wpList_plain hg fun K' hK' => ?_
 have hrun := hM.look h1 h2
 unfold Oper.wp
 simp [execOp, hop, hm, hx, hrun, Result.andThen]
 exact hK' _ _ hK
theorem pe_u16 (n : Nat) (h : n < 65536) : plainElem (H := Unit) Tryz.prog 132 (.int .u16 (n : Int)) = some (lv n, []) := plainElem_int Tryz.underlying132 (WalkArith.wf_u16 (by omega))
theorem ident_succ (k : Nat) : ident (k + 1) = ident k ++ [2 ^ k] := by simp [ident, List.range_succ]
/-- impl.closePairs -/
theorem closePairs_any (n : Nat) (hn : n ≤ 16) (Q : List (Int × Int)) (hQ : Q.length ≤ 32) (hin : PIn n Q) (v : Value) (w : World) (h : HasP w v Q) :
  Calls Tryz.prog 148 #[.int .i64 n, v] w fun e w' => ∃ b, e = .returned (.map (some b)) ∧ MapU w' (.map (some b)) (clo n (prs Q)) ∧ Below w.heap.size w w' := by
 obtain ⟨m, hm⟩ : ∃ m, m = Q.length := ⟨_, rfl⟩
 obtain ⟨A, c, rfl, h⟩ := h.shape hm.symm
 have hl := h.len.2
 rw [← hm] at hQ
 have HH := Lib.hid h
 have HM := Lib.hid hm
 have HIN := Lib.hid hin
 have HWID := Lib.hid (fun k (hk : k < 16) W => nwith_any 0 k (by omega) hk W)
 clear h hm hin
 have hmm := @run_makeMap Tryz.prog
 go_enter Tryz.func148, Tryz.ntmps148
 go_wp2
 clear hmm
 go_loopw [6, 11] (fun _ i wr => ∃ k : Nat, k ≤ n ∧ i = .int .i64 k ∧ (∃ D, wr.ownsMap Tryz.prog 3 (plainElem (H := Unit) Tryz.prog 132) w.heap.size k D ∧ Fits D (ident k)) ∧ Below w.heap.size w wr) (fun _ i _ => n - (intOf i).toNat)
 case atStart => exact ⟨0, Nat.zero_le _, rfl, ⟨_, World.ownsMap_made _ _ _ _, fits_nil⟩, (Below.refl _ _).alloc (Nat.le_refl _) _⟩
 case round =>
  obtain ⟨k, hk, rfl, ⟨D, hown, hF⟩, hbel⟩ := hrel
  by_cases hlt : k < n
  ·have hp : 2 ^ k < 65536 := pow_lt (by omega)
   have HOWN := Lib.hid hown
   clear hown
   go_wp2_with (first
    | (go_at_call 176; refine (HWID.out k (by omega) _).mono ?_; rintro e w1 ⟨rfl, rfl⟩)
    | (at_mapUpdate; refine wpList_mapUpdate_own _ rfl _ _ _ 75 rfl 3 132 mlaw Tryz.underlying75 _ w.heap.size k _ rfl HOWN.out (by unfold maxLen; omega) _ _ _ rfl rfl (key_int (by omega) (by omega)) (lv (2 ^ k)) [] ?_ ?_))
   ·show plainElem _ _ (Value.int .u16 ((2 : Int) ^ k)) = _
    rw [show ((2 : Int) ^ k) = ((2 ^ k : Nat) : Int) by simp]; exact pe_u16 _ hp
   intro w2 hown2 hgrow2
   have HB := hbel.grown hgrow2 hbel.size (by intro j hj; cases hj; exact Nat.le_refl _)
   have HF2 : Hid (Fits (D.put (lk k) (lv (2 ^ k))) (ident (k + 1))) := Lib.hid (by
    have := fits_push hF (2 ^ k)
    rw [ident_len] at this
    rw [ident_succ]; exact this)
   clear hgrow2 hbel
   go_wp2
   go_roundw
   case rel => exact ⟨k + 1, by omega, by go_num, ⟨_, hown2, HF2.out⟩, HB⟩
   case measure => simp [intOf]; omega
  ·obtain rfl : k = n := by omega
   clear hlt
   go_wp2
   go_loopw [8, 20, 22, 23, 24, 25, 26, 27, 28, 29, 30, 31, 32, 33, 34, 35, 36, 37] (fun _ i _ _ _ _ _ _ _ _ _ _ _ _ _ _ _ _ wr => ∃ t : Nat, t ≤ k ∧ i = .int .i64 t ∧ (∃ D q, q ≤ 16 + t * 32 ∧ wr.ownsMap Tryz.prog 3 (plainElem (H := Unit) Tryz.prog 132) w.heap.size q D ∧ Fits D (iterU (prs Q) (ident k) t)) ∧ Below w.heap.size w wr) (fun _ i _ _ _ _ _ _ _ _ _ _ _ _ _ _ _ _ _ => k - (intOf i).toNat)
   case atStart => exact ⟨0, Nat.zero_le _, rfl, ⟨D, k, by omega, hown, hF⟩, hbel⟩
   case round =>
    obtain ⟨t, ht, rfl, ⟨D2, q, hq, hown2, hF2⟩, hbel2⟩ := hrel
    clear hown hF hbel
    by_cases hlt : t < k
    ·go_wp2
     go_loopw [8, 24, 25, 26, 27, 28, 29, 30, 31, 32, 33, 34, 35, 36, 37] (fun _ i _ _ _ _ _ _ _ _ _ _ _ _ _ wx => ∃ j : Nat, j ≤ m ∧ i = .int .i64 j ∧ (∃ D q, q ≤ 16 + t * 32 + j ∧ wx.ownsMap Tryz.prog 3 (plainElem (H := Unit) Tryz.prog 132) w.heap.size q D ∧ Fits D (midU k (prs Q) t j)) ∧ Below w.heap.size w wx) (fun _ i _ _ _ _ _ _ _ _ _ _ _ _ _ _ => m - (intOf i).toNat)
     case atStart => exact ⟨0, Nat.zero_le _, rfl, ⟨D2, q, by omega, hown2, by rw [midU_zero]; exact hF2⟩, hbel2⟩
     case round =>
      obtain ⟨j, hj, rfl, ⟨D3, q3, hq3, hown3, hF3⟩, hbel3⟩ := hrel
      clear hown2 hF2 hbel2
      by_cases hlt3 : j < m
      ·obtain ⟨g, o, rfl, hg, hcell, hcell2⟩ := HH.out.cellAt hlt3
       rw [← hbel3.cell (p := ⟨g, o + j * 2, none⟩) hg] at hcell
       rw [← hbel3.cell (p := ⟨g, o + j * 2 + 1, none⟩) hg] at hcell2
       have hin := HIN.out.get (k := j) (by have := HM.out; omega)
       have hs := midU_succ k (prs Q) t j (by rw [prs_len]; have := HM.out; omega)
       rw [prs_get] at hs
       have hl1 := midU_lt HIN.out.inR t j (Q.getD j (0, 0)).1.toNat
       have hl2 := midU_lt HIN.out.inR t j (Q.getD j (0, 0)).2.toNat
       have hpk : 2 ^ k ≤ 65536 := Nat.pow_le_pow_right (n := 2) (by decide) (show k ≤ 16 by omega)
       have HLEN := Lib.hid (midU_len k (prs Q) t j)
       obtain ⟨x, hx⟩ : ∃ x, x = (Q.getD j (0, 0)).1 := ⟨_, rfl⟩
       obtain ⟨y, hy⟩ : ∃ y, y = (Q.getD j (0, 0)).2 := ⟨_, rfl⟩
       rw [← hx, ← hy] at hin hs
       rw [← hx] at hcell hl1
       rw [← hy] at hcell2 hl2
       obtain ⟨x', rfl⟩ : ∃ x' : Nat, x = (x' : Int) := ⟨x.toNat, by omega⟩
       obtain ⟨y', rfl⟩ : ∃ y' : Nat, y = (y' : Int) := ⟨y.toNat, by omega⟩
       simp only [Int.toNat_natCast] at hs hl1 hl2
       obtain ⟨U, hU⟩ : ∃ U, U = midU k (prs Q) t j := ⟨_, rfl⟩
       rw [← hU] at hs hl1 hl2 hF3 HLEN
       have HS : Hid (midU k (prs Q) t (j + 1) = U.set x' (U.getD x' 0 ||| U.getD y' 0)) := Lib.hid (by rw [hs, stepU])
       have hor := or_u16 (U.getD x' 0) (U.getD y' 0) (by omega) (by omega)
       have hM : MapU wr (.map (some w.heap.size)) U := .inr ⟨_, _, _, rfl, hown3, hF3⟩
       have HMU := Lib.hid hM
       have HOWN := Lib.hid hown3
       have hax := atU_nat U x'
       have hay := atU_nat U y'
       obtain ⟨a, ha⟩ : ∃ a, a = U.getD x' 0 := ⟨_, rfl⟩
       obtain ⟨b, hb⟩ : ∃ b, b = U.getD y' 0 := ⟨_, rfl⟩
       rw [← ha, ← hb] at hor HS
       rw [← ha] at hl1 hax
       rw [← hb] at hl2 hay
       have hab : a ||| b < 65536 := Nat.or_lt_two_pow (n := 16) (by omega) (by omega)
       clear hx hy hs hU ha hb hM hown3
       go_wp2_with (first
        | (at_lookup; refine wpList_lookupU _ rfl _ _ rfl rfl (HMU.out.below (by (repeat (first | exact Below.refl _ _ | refine Below.setCell ?_ (by simp) _ | refine Below.alloc ?_ (by simp) _)))) _ rfl (by omega) (by omega) ?_)
        | (at_mapUpdate; refine wpList_mapUpdate_own _ rfl _ _ _ 75 rfl 3 132 mlaw Tryz.underlying75 _ w.heap.size q3 _ rfl (owns_below HOWN.out (by (repeat (first | exact Below.refl _ _ | refine Below.setCell ?_ (by simp) _ | refine Below.alloc ?_ (by simp) _)))) (by unfold maxLen; omega) _ _ _ rfl rfl (key_int (by omega) (by omega)) (lv (a ||| b)) [] ?_ ?_))
       ·show plainElem _ _ (Value.int .u16 ((a ||| b : Nat) : Int)) = _
        exact pe_u16 _ hab
       intro w2 hown4 hgrow2
       have HB : Below w.heap.size w w2 := Below.grown (w := _) (by repeat (first | exact hbel3 | refine Below.setCell ?_ (by first | exact hbel3.size | (have := hbel3.size; simp; omega)) _ | refine Below.alloc ?_ (by first | exact hbel3.size | (have := hbel3.size; simp; omega)) _)) hgrow2 (by have := hbel3.size; simp; omega) (by intro j hj; cases hj; exact Nat.le_refl _)
       have HF4 : Hid (Fits (D3.put (lk x') (lv (a ||| b))) (midU k (prs Q) t (j + 1))) := Lib.hid (by rw [HS.out]; exact fits_set hF3 x' (by have := HLEN.out; omega) _)
       clear hgrow2 hF3
       go_wp2
       go_roundw
       case rel => exact ⟨j + 1, by omega, by go_num, ⟨_, _, by omega, hown4, HF4.out⟩, HB⟩
       case measure => simp [intOf]; omega
      ·obtain rfl : j = m := by omega
       have HF4 : Hid (Fits D3 (iterU (prs Q) (ident k) (t + 1))) := Lib.hid (by rw [← midU_last, prs_len, ← HM.out]; exact hF3)
       clear hF3
       go_wp2
       go_roundw
       case rel => exact ⟨t + 1, by omega, by go_num, ⟨_, q3, by omega, hown3, HF4.out⟩, hbel3⟩
       case measure => simp [intOf]; omega
    ·obtain rfl : t = k := by omega
     go_wp2
     go_ret
     exact ⟨_, rfl, .inr ⟨_, _, _, rfl, hown2, hF2⟩, hbel2⟩
end Go.Proofs.YtkkmjaggebjcbaaGreat.sortp
/-
 THE PROGRAM's FUNCTIONS OF SORTS: haveCircle, hasSort, asSorts, relatedTo, least, greatest, bothDirections, sortOrder; IsSorts, AboveSort, BelowSort, KindOfSort, LeastSorts, CommonSorts, GreatestSorts.
-/
namespace Go.Proofs.YtkkmjaggebjcbaaGreat.sorti
open Go.ChangeShapes Go.WideShapes Go.ChangeAt Go.RowKit
open mem split strl subs sortn setm sets sortm sortp

/-- all sets of U are small -/
def Lim (U : List Nat) : Prop := U.length ≤ 8 ∧ ∀ i, U.getD i 0 < 2 ^ U.length
theorem Lim.lt {U : List Nat} (h : Lim U) (i : Nat) : U.getD i 0 < 65536 := Nat.lt_of_lt_of_le (h.2 i) (Nat.le_trans (Nat.pow_le_pow_right (n := 2) (by decide) h.1) (by decide))
theorem pow8 {n : Nat} (h : n ≤ 8) : 2 ^ n ≤ 256 := Nat.le_trans (Nat.pow_le_pow_right (n := 2) (by decide) h) (by decide)
theorem Lim.nil : Lim [] := ⟨by simp, fun i => by simp⟩
/-- sortSets.haveCircle -/
theorem haveCircle_any (U : List Nat) (hU : Lim U) (v : Value) (r : Bool) (hr : circ U.length U = r) (w : World) (hM : MapU w v U) :
  Calls Tryz.prog 149 #[v] w fun e w' => e = .returned (.bool r) ∧ w = w' := by
 have hlen := hM.len
 have HM := Lib.hid hM
 have HR := Lib.hid hr
 have HU := Lib.hid hU
 obtain ⟨n, hn⟩ : ∃ n, n = U.length := ⟨_, rfl⟩
 rw [← hn] at hlen
 have hn8 : n ≤ 8 := by rw [hn]; exact hU.1
 have HN := Lib.hid hn
 clear hM hr hU hn
 go_enter Tryz.func149, Tryz.ntmps149
 go_wp2
 go_loop [7] (fun i => ∃ h : Nat, h ≤ n ∧ i = .int .i64 h ∧ Hid (∀ a b, a < h → b < a → ¬ ((U.getD b 0).testBit a = true ∧ (U.getD a 0).testBit b = true))) (fun i => n - (intOf i).toNat)
 case atStart => exact ⟨0, Nat.zero_le _, rfl, Lib.hid (fun a b h => by omega)⟩
 case round =>
  obtain ⟨h, hh, rfl, HX⟩ := hrel
  by_cases hlt : h < n
  ·go_wp2
   go_loop [11] (fun i => ∃ l : Nat, l ≤ h ∧ i = .int .i64 l ∧ Hid (∀ b, b < l → ¬ ((U.getD b 0).testBit h = true ∧ (U.getD h 0).testBit b = true))) (fun i => h - (intOf i).toNat)
   case atStart => exact ⟨0, Nat.zero_le _, rfl, Lib.hid (fun b h => by omega)⟩
   case round =>
    obtain ⟨l, hl, rfl, HY⟩ := hrel
    by_cases hlt2 : l < h
    ·have k1 := HM.out.look (x := (l : Int)) (by omega) (by omega)
     have k2 := HM.out.look (x := (h : Int)) (by omega) (by omega)
     rw [atU_nat] at k1 k2
     have HC1 := Lib.hid (fun b hb W => nhas_any (U.getD l 0) h (HU.out.lt l) (by omega) b hb W)
     have HC2 := Lib.hid (fun b hb W => nhas_any (U.getD h 0) l (HU.out.lt h) (by omega) b hb W)
     have HT : Hid ((U.getD l 0).testBit h = true → (U.getD h 0).testBit l = true → r = true) := Lib.hid (fun e1 e2 => by rw [← HR.out]; exact circ_true (by have := HN.out; omega) hlt2 e1 e2)
     have HF : Hid (¬ ((U.getD l 0).testBit h = true ∧ (U.getD h 0).testBit l = true) → ∀ b, b < l + 1 → ¬ ((U.getD b 0).testBit h = true ∧ (U.getD h 0).testBit b = true)) := Lib.hid (fun e b hb => by
      by_cases hbl : b = l
      ·subst hbl; exact e
      ·exact HY.out b (by omega))
     obtain ⟨s, hs⟩ : ∃ s, s = U.getD l 0 := ⟨_, rfl⟩
     obtain ⟨t, ht⟩ : ∃ t, t = U.getD h 0 := ⟨_, rfl⟩
     rw [← hs] at k1 HC1
     rw [← ht] at k2 HC2
     rw [← hs, ← ht] at HT
     have HSL : Hid (s < 65536) := Lib.hid (by rw [hs]; exact HU.out.lt l)
     have HTL : Hid (t < 65536) := Lib.hid (by rw [ht]; exact HU.out.lt h)
     have HSS := Lib.hid hs
     have HTT := Lib.hid ht
     clear hs ht
     cases h1 : s.testBit h with
     | false =>
      have HD := Lib.hid (HC1.out false h1)
      have HF2 := Lib.hid (HF.out (by rw [← HSS.out, h1]; simp))
      clear h1
      go_wp2_with (go_at_call 151; refine (HD.out _).mono ?_; rintro e w1 ⟨rfl, rfl⟩)
      go_round
      case rel => exact ⟨l + 1, by omega, by go_num, HF2⟩
      case measure => simp [intOf]; omega
     | true =>
      have HD := Lib.hid h1
      cases h2 : t.testBit l with
      | false =>
       have HD2 := Lib.hid h2
       have HF2 := Lib.hid (HF.out (by rw [← HTT.out, h2]; simp))
       clear h1 h2
       go_wp2_with (go_at_call 151; refine (nhas_any _ _ (by first | exact HSL.out | exact HTL.out) (by omega) _ (by first | exact HD.out | exact HD2.out) _).mono ?_; rintro e w1 ⟨rfl, rfl⟩)
       go_round
       case rel => exact ⟨l + 1, by omega, by go_num, HF2⟩
       case measure => simp [intOf]; omega
      | true =>
       have HD2 := Lib.hid h2
       have HQ := Lib.hid (HT.out h1 h2)
       clear h1 h2
       go_wp2_with (go_at_call 151; refine (nhas_any _ _ (by first | exact HSL.out | exact HTL.out) (by omega) _ (by first | exact HD.out | exact HD2.out) _).mono ?_; rintro e w1 ⟨rfl, rfl⟩)
       go_ret
       exact ⟨ret_bool HQ.out.symm, rfl⟩
    ·obtain rfl : l = h := by omega
     go_wp2
     go_round
     case rel =>
      refine ⟨l + 1, by omega, by go_num, Lib.hid (fun a b ha hb => ?_)⟩
      by_cases hal : a = l
      ·subst hal; exact HY.out b hb
      ·exact HX.out a b (by omega) hb
     case measure => simp [intOf]; omega
  ·obtain rfl : h = n := by omega
   have HQ : Hid (r = false) := Lib.hid (by rw [← HR.out]; exact circ_false (fun a b ha hb => HX.out a b (by have := HN.out; omega) hb))
   go_wp2
   go_ret
   exact ⟨ret_bool HQ.out.symm, rfl⟩
/-- sortSets.hasSort -/
theorem hasSort_any (U : List Nat) (v : Value) (x : Int) (h1 : -9223372036854775808 ≤ x) (h2 : x ≤ 9223372036854775807) (r : Bool) (hr : decide (0 ≤ x ∧ x < U.length) = r) (w : World) (hM : MapU w v U) :
  Calls Tryz.prog 162 #[v, .int .i64 x] w fun e w' => e = .returned (.bool r) ∧ w = w' := by
 have hl := hM.look_ok h1 h2
 rw [hr] at hl
 clear hM hr
 go_enter Tryz.func162, Tryz.ntmps162
 go_wp2
 go_ret
 exact ⟨rfl, rfl⟩
theorem nats_get (E : List Nat) (j : Nat) : (nats E).getD j 0 = ((E.getD j 0 : Nat) : Int) := by
 simp only [nats, List.getD, List.getElem?_map]
 cases E[j]? <;> simp
def bothQ (Q : List (Int × Int)) : List (Int × Int) := Q.flatMap fun p => [p, (p.2, p.1)]
theorem bothQ_len (Q : List (Int × Int)) : (bothQ Q).length = 2 * Q.length := by
 induction Q with
 | nil => rfl
 | cons p Q ih => simp [bothQ] at ih ⊢; omega
theorem bothQ_prs (Q : List (Int × Int)) : prs (bothQ Q) = both (prs Q) := by
 induction Q with
 | nil => rfl
 | cons p Q ih => simp [bothQ, prs, both] at ih ⊢; exact ih
theorem bothQ_pin {n : Nat} {Q : List (Int × Int)} (h : PIn n Q) : PIn n (bothQ Q) := by
 intro q hq
 obtain ⟨p, hp, hpq⟩ := List.mem_flatMap.1 hq
 simp only [List.mem_cons, List.not_mem_nil, or_false] at hpq
 rcases hpq with rfl | rfl
 ·exact h _ hp
 ·exact ⟨(h p hp).2, (h p hp).1⟩
theorem bothQ_take (Q : List (Int × Int)) (k : Nat) (h : k < Q.length) : bothQ (Q.take (k + 1)) = bothQ (Q.take k) ++ [((Q.getD k (0, 0)).1, (Q.getD k (0, 0)).2), ((Q.getD k (0, 0)).2, (Q.getD k (0, 0)).1)] := by
 rw [takeP Q k h, bothQ, List.flatMap_append]; simp [bothQ]
theorem four_cells (w : World) (a b c d : Value) (t : TypeId) : ∀ (j : Nat) (x : Value), [a, b, c, d][j]? = some x → (w.alloc (.cells #[a, b, c, d] t)).cell? ((⟨w.heap.size, 0, none⟩ : Addr).add j) = some x := by
 intro j x hj
 match j, hj with
 | 0, hj => simp at hj; subst hj; simp [Addr.add]
 | 1, hj => simp at hj; subst hj; simp [Addr.add]
 | 2, hj => simp at hj; subst hj; simp [Addr.add]
 | 3, hj => simp at hj; subst hj; simp [Addr.add]
theorem four_one (a b c d : Int) : ∀ x ∈ ([.int .i64 a, .int .i64 b, .int .i64 c, .int .i64 d] : List Value), x.oneCell' = true := by
 intro x hx
 simp at hx
 rcases hx with rfl | rfl | rfl | rfl <;> rfl
/-- impl.bothDirections -/
theorem bothDirections_any (Q : List (Int × Int)) (hQ : Q.length ≤ 16) (v : Value) (w : World) (h : HasP w v Q) :
  Calls Tryz.prog 156 #[v] w fun e w' => ∃ v', e = .returned v' ∧ HasP w' v' (bothQ Q) ∧ Below w.heap.size w w' := by
 obtain ⟨i0, hi, hz0, hz1, hz2⟩ := info_parts info_sub
 obtain ⟨m, hm⟩ : ∃ m, m = Q.length := ⟨_, rfl⟩
 obtain ⟨A, c, rfl, h⟩ := h.shape hm.symm
 have hl := h.len.2
 rw [← hm] at hQ
 have HH := Lib.hid h
 have HM := Lib.hid hm
 clear h hm
 go_enter Tryz.func156, Tryz.ntmps156
 go_wp2_with (at_make; refine wpList_make_own _ rfl _ _ 37 rfl w.heap.size 163 i0 _ 2 Tryz.underlying37 hi hz0 hz1 _ _ _ (2 * m) rfl rfl (by go_num) (by rw [hz2]; omega) (by unfold maxLen; omega) (Nat.le_refl _) ?_)
 intro w1 hown hgrow
 have hb1 : Below w.heap.size w w1 := (Below.refl w.heap.size w).grown hgrow (Nat.le_refl _) (by intro k hk; cases hk)
 clear hgrow
 go_wp2
 go_loopw [3, 12] (fun v i wr => ∃ k : Nat, k ≤ m ∧ i = .int .i64 k ∧ wr.ownsRow w.heap.size 163 2 v (2 * k) (pcs (bothQ (Q.take k))) ∧ Below w.heap.size w wr) (fun _ i _ => m - (intOf i).toNat)
 case atStart => exact ⟨0, Nat.zero_le _, rfl, hown, hb1⟩
 case round =>
  obtain ⟨k, hk, rfl, hown', hbel⟩ := hrel
  clear hown
  have HO := Lib.hid (own_block hown')
  by_cases hlt : k < m
  ·obtain ⟨g, o, rfl, hg, hcell, hcell2⟩ := HH.out.cellAt hlt
   rw [← hbel.cell (p := ⟨g, o + k * 2, none⟩) hg] at hcell
   rw [← hbel.cell (p := ⟨g, o + k * 2 + 1, none⟩) hg] at hcell2
   have HB := Lib.hid (bothQ_take Q k (by have := HM.out; omega))
   obtain ⟨x, hx⟩ : ∃ x, x = (Q.getD k (0, 0)).1 := ⟨_, rfl⟩
   obtain ⟨y, hy⟩ : ∃ y, y = (Q.getD k (0, 0)).2 := ⟨_, rfl⟩
   rw [← hx] at hcell HB
   rw [← hy] at hcell2 HB
   have HOWN := Lib.hid hown'
   clear hx hy hown'
   go_wp2_with (at_builtin; refine wpList_append_own _ rfl _ _ 37 rfl w.heap.size 163 i0 _ 2 16 Tryz.underlying37 hi hz0 hz1 hz2 rfl (by decide) _ _ _ rfl (own_below HOWN.out ?_) ⟨wr.heap.size + 1, 0, none⟩ 2 2 [.int .i64 x, .int .i64 y, .int .i64 y, .int .i64 x] rfl rfl ?_ (four_one _ _ _ _) (by unfold maxLen; omega) (by omega) (by have := hbel.size; simp; omega) ?_)
   ·repeat (first | exact Below.refl _ _ | refine Below.setCell ?_ (by simp) _ | refine Below.alloc ?_ (by simp) _)
   ·intro j u hj
    have := four_cells (wr.alloc (.cells #[.int .i64 x, .int .i64 y] 163)) _ _ _ _ 163 j u hj
    simpa using this
   intro v2 w2 hown2 hgrow2 _
   have HB2 : Below w.heap.size w w2 := Below.grown (w := _) (by repeat (first | exact hbel | refine Below.alloc ?_ (by first | exact hbel.size | (have := hbel.size; simp; omega)) _)) hgrow2 (by have := hbel.size; simp; omega) HO.out
   have HOWN2 : w2.ownsRow w.heap.size 163 2 v2 (2 * (k + 1)) (pcs (bothQ (Q.take (k + 1)))) := by
    rw [HB.out, pcs_append, show 2 * (k + 1) = 2 * k + 2 by omega]; exact hown2
   clear hown2 hgrow2 hbel
   go_wp2
   go_roundw
   case rel => exact ⟨k + 1, by omega, by go_num, HOWN2, HB2⟩
   case measure => simp [intOf]; omega
  ·obtain rfl : k = m := by omega
   go_wp2
   go_ret
   refine ⟨_, rfl, ?_, hbel⟩
   have h1 := HasP.of_own hown'
   rw [List.take_of_length_le (by have := HM.out; omega)] at h1
   exact h1
/-- the order as a list of sets; none if the sorts are not valid -/
def ordU (P : List (List UInt8)) (Q : List (Int × Int)) : List Nat := if okS P Q then clo P.length (prs Q) else []
theorem ordU_yes {P : List (List UInt8)} {Q : List (Int × Int)} (h : okS P Q = true) : ordU P Q = clo P.length (prs Q) := by rw [ordU, if_pos h]
theorem ordU_no {P : List (List UInt8)} {Q : List (Int × Int)} (h : okS P Q = false) : ordU P Q = [] := by rw [ordU, if_neg (by simp [h])]
/-- what a value of Sorts holds -/
structure HasS (w : World) (va vb : Value) (P : List (List UInt8)) (Q : List (Int × Int)) : Prop where
 a : Has w va (ssv P)
 b : HasP w vb Q
 short : ∀ k, k < P.length → (P.getD k []).length ≤ maxLen
 in64 : In64 Q
theorem HasS.below {w w' : World} {va vb : Value} {P : List (List UInt8)} {Q : List (Int × Int)} (h : HasS w va vb P Q) {B : Nat} (hB : w.heap.size ≤ B) (hb : Below B w w') : HasS w' va vb P Q := ⟨h.a.below hB hb, h.b.below hB hb, h.short, h.in64⟩
theorem HasS.shape {w : World} {va vb : Value} {P : List (List UInt8)} {Q : List (Int × Int)} (h : HasS w va vb P Q) :
  ∃ A ca B cb, va = .slice A P.length ca ∧ vb = .slice B Q.length cb ∧ P.length ≤ 9223372036854775807 ∧ Q.length ≤ 9223372036854775807 ∧ HasS w (.slice A P.length ca) (.slice B Q.length cb) P Q := by
 obtain ⟨A, ca, rfl, ha⟩ := h.a.shape (ssv_len P)
 obtain ⟨B, cb, rfl, hb⟩ := h.b.shape rfl
 exact ⟨A, ca, B, cb, rfl, rfl, ha.len.2, hb.len.2, h⟩
/-- impl.sortOrder -/
theorem sortOrder_any (P : List (List UInt8)) (Q : List (Int × Int)) (va vb : Value) (w : World) (h : HasS w va vb P Q) :
  Calls Tryz.prog 105 #[.agg #[va, vb]] w fun e w' => ∃ mv, e = .returned mv ∧ MapU w' mv (ordU P Q) ∧ (okS P Q = true → ∃ b, mv = .map (some b)) ∧ (okS P Q = false → mv = .map none) ∧ Below w.heap.size w w' := by
 obtain ⟨A, ca, B, cb, rfl, rfl, hla, hlb, h'⟩ := h.shape
 have HH := Lib.hid h'
 have HNM := Lib.hid (fun r hr W hW => sortNames_any P h'.short _ r hr W (h'.below (Nat.le_refl _) hW).a)
 clear h h'
 cases hn : namesOk P with
 | false =>
  have hok : okS P Q = false := by rw [okS, hn]; rfl
  have HQ : Hid (ordU P Q = []) := Lib.hid (ordU_no hok)
  have HOK := Lib.hid hok
  have HN := Lib.hid (HNM.out false hn)
  clear hn hok
  go_enter Tryz.func105, Tryz.ntmps105
  go_wp2_with (go_at_call 146; refine (HN.out _ ((Below.refl _ _).alloc (Nat.le_refl _) _)).mono ?_; rintro e w1 ⟨rfl, rfl⟩)
  go_ret
  exact ⟨_, rfl, .inl ⟨rfl, HQ.out⟩, fun e => (by rw [HOK.out] at e; cases e), fun _ => rfl, (Below.refl _ _).alloc (Nat.le_refl _) _⟩
 | true =>
  have HN := Lib.hid (HNM.out true hn)
  have hP : 1 ≤ P.length ∧ P.length ≤ 8 := by simp only [namesOk, Bool.and_eq_true, decide_eq_true_eq] at hn; exact hn.1
  obtain ⟨n, hnn⟩ : ∃ n, n = P.length := ⟨_, rfl⟩
  rw [← hnn] at hla hP HN HH ⊢
  have HNN := Lib.hid hnn
  have HSB := Lib.hid (fun r hr W hW => areSubs_any n (by omega) Q HH.out.in64 _ r hr W (HH.out.below (Nat.le_refl _) hW).b)
  cases hs : subsOk n Q with
  | false =>
   have hok : okS P Q = false := by rw [okS, hn, ← hnn, hs]; rfl
   have HQ : Hid (ordU P Q = []) := Lib.hid (ordU_no hok)
   have HOK := Lib.hid hok
   have HSF := Lib.hid (HSB.out false hs)
   clear hn hok hnn hs
   go_enter Tryz.func105, Tryz.ntmps105
   go_wp2_with (first
    | (go_at_call 146; refine (HN.out _ ((Below.refl _ _).alloc (Nat.le_refl _) _)).mono ?_; rintro e w1 ⟨rfl, rfl⟩)
    | (go_at_call 147; refine (HSF.out _ ((Below.refl _ _).alloc (Nat.le_refl _) _)).mono ?_; rintro e w1 ⟨rfl, hb1⟩))
   go_ret
   exact ⟨_, rfl, .inl ⟨rfl, HQ.out⟩, fun e => (by rw [HOK.out] at e; cases e), fun _ => rfl, ((Below.refl _ _).alloc (Nat.le_refl _) _).trans (hb1.mono (by simp))⟩
  | true =>
   obtain ⟨hpin, hq16⟩ := subsOk_pin hs
   have HST := Lib.hid (HSB.out true hs)
   have HCL := Lib.hid (fun W hW => closePairs_any n (by omega) Q (by omega) hpin _ W (HH.out.below (Nat.le_refl _) hW).b)
   have hlim : Lim (clo n (prs Q)) := ⟨by rw [clo_len]; omega, fun i => by rw [clo_len]; exact clo_lt hpin.inR i⟩
   have HCI := Lib.hid (fun r hr v W hM => haveCircle_any (clo n (prs Q)) hlim v r hr W hM)
   rw [clo_len] at HCI
   have HPIN := Lib.hid hpin
   have HLIM := Lib.hid hlim
   cases hc : circ n (clo n (prs Q)) with
   | true =>
    have hok : okS P Q = false := by rw [okS, hn, ← hnn, hs, hc]; rfl
    have HQ : Hid (ordU P Q = []) := Lib.hid (ordU_no hok)
    have HOK := Lib.hid hok
    have HCT := Lib.hid (HCI.out true hc)
    clear hn hok hnn hs hc hpin hlim
    go_enter Tryz.func105, Tryz.ntmps105
    go_wp2_with (first
     | (go_at_call 146; refine (HN.out _ ((Below.refl _ _).alloc (Nat.le_refl _) _)).mono ?_; rintro e w1 ⟨rfl, rfl⟩)
     | (go_at_call 147; refine (HST.out _ ((Below.refl _ _).alloc (Nat.le_refl _) _)).mono ?_; rintro e w1 ⟨rfl, hb1⟩
        have hbw : Below w.heap.size w w1 := ((Below.refl _ _).alloc (Nat.le_refl _) _).trans (hb1.mono (by simp))
        have c0 : w1.cell? ⟨w.heap.size, 0, none⟩ = some (.slice A n ca) := by rw [hb1.cell (p := ⟨w.heap.size, 0, none⟩) (by simp)]; simp
        have c1 : w1.cell? ⟨w.heap.size, 1, none⟩ = some (.slice B Q.length cb) := by rw [hb1.cell (p := ⟨w.heap.size, 1, none⟩) (by simp)]; simp
        clear hb1)
     | (go_at_call 148; refine (HCL.out _ hbw).mono ?_; rintro e w2 ⟨b, rfl, hM, hb2⟩; have HMM := Lib.hid hM; clear hM)
     | (go_at_call 149; refine (HCT.out _ _ HMM.out).mono ?_; rintro e w3 ⟨rfl, rfl⟩))
    go_ret
    exact ⟨_, rfl, .inl ⟨rfl, HQ.out⟩, fun e => (by rw [HOK.out] at e; cases e), fun _ => rfl, hbw.trans (hb2.mono hbw.size)⟩
   | false =>
    have hok : okS P Q = true := by rw [okS, hn, ← hnn, hs, hc]; rfl
    have HQ : Hid (ordU P Q = clo n (prs Q)) := Lib.hid (by rw [ordU_yes hok, hnn])
    have HOK := Lib.hid hok
    have HCT := Lib.hid (HCI.out false hc)
    clear hn hok hnn hs hc hpin hlim
    go_enter Tryz.func105, Tryz.ntmps105
    go_wp2_with (first
     | (go_at_call 146; refine (HN.out _ ((Below.refl _ _).alloc (Nat.le_refl _) _)).mono ?_; rintro e w1 ⟨rfl, rfl⟩)
     | (go_at_call 147; refine (HST.out _ ((Below.refl _ _).alloc (Nat.le_refl _) _)).mono ?_; rintro e w1 ⟨rfl, hb1⟩
        have hbw : Below w.heap.size w w1 := ((Below.refl _ _).alloc (Nat.le_refl _) _).trans (hb1.mono (by simp))
        have c0 : w1.cell? ⟨w.heap.size, 0, none⟩ = some (.slice A n ca) := by rw [hb1.cell (p := ⟨w.heap.size, 0, none⟩) (by simp)]; simp
        have c1 : w1.cell? ⟨w.heap.size, 1, none⟩ = some (.slice B Q.length cb) := by rw [hb1.cell (p := ⟨w.heap.size, 1, none⟩) (by simp)]; simp
        clear hb1)
     | (go_at_call 148; refine (HCL.out _ hbw).mono ?_; rintro e w2 ⟨b, rfl, hM, hb2⟩; have HMM := Lib.hid hM; clear hM)
     | (go_at_call 149; refine (HCT.out _ _ HMM.out).mono ?_; rintro e w3 ⟨rfl, rfl⟩))
    go_ret
    exact ⟨_, rfl, by rw [HQ.out]; exact HMM.out, fun _ => ⟨_, rfl⟩, fun e => (by rw [HOK.out] at e; cases e), hbw.trans (hb2.mono hbw.size)⟩
end Go.Proofs.YtkkmjaggebjcbaaGreat.sorti
/-
 PLAIN MATHEMATICS OF SIGNATURES: no program.
-/
namespace Go.Proofs.YtkkmjaggebjcbaaGreat.sigm
open sortm sortn sortp subs

/-- an operator: its name, its declarations (the sorts of the arguments, and that of the result), its axioms and its unit -/
structure OpM where
 name : List UInt8
 decls : List (List Int × Int)
 ass : Bool
 com : Bool
 unt : Int
instance : Inhabited OpM := ⟨⟨[], [], false, false, 0⟩⟩

def inN (n : Nat) (x : Int) : Bool := decide (0 ≤ x ∧ x < n)
def okD (n : Nat) (d : List Int × Int) : Bool := decide (d.1.length ≤ 3) && inN n d.2 && d.1.all (inN n)
/-- the kinds at the places of a declaration -/
def kD (κ : Int → Nat) (d : List Int × Int) : List Nat × Nat := (d.1.map κ, κ d.2)
def hd0 (D : List (List Int × Int)) : List Int × Int := D.getD 0 ([], 0)
/-- all declarations are valid, with the kinds of the first one -/
def declsOk (n : Nat) (κ : Int → Nat) (D : List (List Int × Int)) : Bool :=
 decide (1 ≤ D.length ∧ D.length ≤ 4) && D.all fun d => okD n d && decide (kD κ d = kD κ (hd0 D))
def unitOf (O : List OpM) (o : OpM) : OpM := O.getD (o.unt.toNat - 1) default
def a0 (o : OpM) : Int := (hd0 o.decls).1.getD 0 0
def a1 (o : OpM) : Int := (hd0 o.decls).1.getD 1 0
def rs (o : OpM) : Int := (hd0 o.decls).2
def ar (o : OpM) : Nat := (hd0 o.decls).1.length
/-- the axioms fit -/
def argsOk (κ : Int → Nat) (o : OpM) : Bool :=
 (!o.ass && !o.com && decide (o.unt = 0)) || (decide (ar o = 2) && decide (κ (a0 o) = κ (a1 o)) && ((!o.ass && decide (o.unt = 0)) || decide (κ (a0 o) = κ (rs o))))
def unitOk (κ : Int → Nat) (O : List OpM) (o : OpM) : Bool :=
 decide (o.unt = 0) || (decide (0 ≤ o.unt ∧ o.unt ≤ O.length) && decide (ar (unitOf O o) = 0) && decide (κ (rs (unitOf O o)) = κ (rs o)))
def axOk (κ : Int → Nat) (O : List OpM) (o : OpM) : Bool := argsOk κ o && unitOk κ O o
def nms (O : List OpM) : List (List UInt8) := O.map (·.name)
theorem nms_len (O : List OpM) : (nms O).length = O.length := by simp [nms]
theorem nms_get (O : List OpM) (k : Nat) (h : k < O.length) : (nms O).getD k [] = (O.getD k default).name := by
 simp [nms, List.getD, List.getElem?_eq_getElem h]
/-- the operators are valid, over n sorts whose kinds κ tells apart -/
def opsOk (n : Nat) (κ : Int → Nat) (O : List OpM) : Bool :=
 decide (O.length ≤ 14) && namesTo (nms O) O.length && (O.all fun o => declsOk n κ o.decls) && O.all (axOk κ O)

/-- two ways to tell kinds apart -/
def Alike (n : Nat) (κ κ' : Int → Nat) : Prop := ∀ x y, inN n x = true → inN n y = true → (κ x = κ y ↔ κ' x = κ' y)
theorem map_alike {n : Nat} {κ κ' : Int → Nat} (h : Alike n κ κ') : ∀ l m : List Int, l.all (inN n) = true → m.all (inN n) = true → (l.map κ = m.map κ ↔ l.map κ' = m.map κ')
 | [], [], _, _ => by simp
 | [], _ :: _, _, _ => by simp
 | _ :: _, [], _, _ => by simp
 | a :: l, b :: m, h1, h2 => by
  simp only [List.all_cons, Bool.and_eq_true] at h1 h2
  simp only [List.map_cons, List.cons.injEq]
  rw [h a b h1.1 h2.1, map_alike h l m h1.2 h2.2]
theorem kD_alike {n : Nat} {κ κ' : Int → Nat} (h : Alike n κ κ') {d e : List Int × Int} (hd : okD n d = true) (he : okD n e = true) : kD κ d = kD κ e ↔ kD κ' d = kD κ' e := by
 simp only [okD, Bool.and_eq_true] at hd he
 simp only [kD, Prod.mk.injEq]
 rw [map_alike h _ _ hd.2 he.2, h _ _ hd.1.2 he.1.2]
theorem hd0_mem {D : List (List Int × Int)} (h : 1 ≤ D.length) : hd0 D ∈ D := by
 match D, h with
 | d :: D, _ => simp [hd0]
theorem declsOk_parts {n : Nat} {κ : Int → Nat} {D : List (List Int × Int)} (h : declsOk n κ D = true) :
  1 ≤ D.length ∧ D.length ≤ 4 ∧ (∀ d ∈ D, okD n d = true ∧ kD κ d = kD κ (hd0 D)) ∧ okD n (hd0 D) = true := by
 simp only [declsOk, Bool.and_eq_true, decide_eq_true_eq, List.all_eq_true] at h
 exact ⟨h.1.1, h.1.2, h.2, (h.2 _ (hd0_mem h.1.1)).1⟩
theorem declsOk_alike {n : Nat} {κ κ' : Int → Nat} (h : Alike n κ κ') (D : List (List Int × Int)) : declsOk n κ D = declsOk n κ' D := by
 have one : ∀ κ κ' : Int → Nat, Alike n κ κ' → declsOk n κ D = true → declsOk n κ' D = true := by
  intro κ κ' h hd
  obtain ⟨h1, h2, h3, h4⟩ := declsOk_parts hd
  simp only [declsOk, Bool.and_eq_true, decide_eq_true_eq, List.all_eq_true]
  exact ⟨⟨h1, h2⟩, fun d hd => ⟨(h3 d hd).1, (kD_alike h (h3 d hd).1 h4).1 (h3 d hd).2⟩⟩
 rw [Bool.eq_iff_iff]
 exact ⟨one _ _ h, one _ _ (fun x y hx hy => (h x y hx hy).symm)⟩
theorem okD_parts {n : Nat} {d : List Int × Int} (h : okD n d = true) : d.1.length ≤ 3 ∧ inN n d.2 = true ∧ ∀ k, k < d.1.length → inN n (d.1.getD k 0) = true := by
 simp only [okD, Bool.and_eq_true, decide_eq_true_eq, List.all_eq_true] at h
 refine ⟨h.1.1, h.1.2, fun k hk => ?_⟩
 have := h.2 _ (List.getElem_mem hk)
 simpa [List.getD, List.getElem?_eq_getElem hk] using this
/-- every operator's first declaration is valid -/
def Firsts (n : Nat) (O : List OpM) : Prop := ∀ o ∈ O, okD n (hd0 o.decls) = true
theorem argsOk_alike {n : Nat} {κ κ' : Int → Nat} (h : Alike n κ κ') {o : OpM} (ho : okD n (hd0 o.decls) = true) : argsOk κ o = argsOk κ' o := by
 obtain ⟨h1, h2, h3⟩ := okD_parts ho
 unfold argsOk
 by_cases hl : ar o = 2
 ·have e0 : inN n (a0 o) = true := h3 0 (by unfold ar at hl; omega)
  have e1 : inN n (a1 o) = true := h3 1 (by unfold ar at hl; omega)
  have k1 : decide (κ (a0 o) = κ (a1 o)) = decide (κ' (a0 o) = κ' (a1 o)) := decide_eq_decide.2 (h _ _ e0 e1)
  have k2 : decide (κ (a0 o) = κ (rs o)) = decide (κ' (a0 o) = κ' (rs o)) := decide_eq_decide.2 (h _ _ e0 h2)
  rw [k1, k2]
 ·simp [hl]
theorem unitOf_mem {O : List OpM} {o : OpM} (h : ¬ o.unt = 0) (h1 : 0 ≤ o.unt) (h2 : o.unt ≤ O.length) : unitOf O o ∈ O := by
 have hk : o.unt.toNat - 1 < O.length := by omega
 unfold unitOf
 rw [List.getD_eq_getElem?_getD, List.getElem?_eq_getElem hk]
 exact List.getElem_mem hk
theorem unitOk_alike {n : Nat} {κ κ' : Int → Nat} (h : Alike n κ κ') {O : List OpM} (hO : Firsts n O) {o : OpM} (ho : o ∈ O) : unitOk κ O o = unitOk κ' O o := by
 unfold unitOk
 by_cases h0 : o.unt = 0
 ·simp [h0]
 ·by_cases h1 : 0 ≤ o.unt ∧ o.unt ≤ O.length
  ·have hu := hO _ (unitOf_mem h0 h1.1 h1.2)
   have k : decide (κ (rs (unitOf O o)) = κ (rs o)) = decide (κ' (rs (unitOf O o)) = κ' (rs o)) := decide_eq_decide.2 (h _ _ (okD_parts hu).2.1 (okD_parts (hO _ ho)).2.1)
   rw [k]
  ·simp [h1]
theorem axOk_alike {n : Nat} {κ κ' : Int → Nat} (h : Alike n κ κ') {O : List OpM} (hO : Firsts n O) {o : OpM} (ho : o ∈ O) : axOk κ O o = axOk κ' O o := by
 rw [axOk, axOk, argsOk_alike h (hO _ ho), unitOk_alike h hO ho]
theorem firsts_of {n : Nat} {κ : Int → Nat} {O : List OpM} (h : (O.all fun o => declsOk n κ o.decls) = true) : Firsts n O := by
 intro o ho
 rw [List.all_eq_true] at h
 exact (declsOk_parts (h o ho)).2.2.2
theorem opsOk_alike {n : Nat} {κ κ' : Int → Nat} (h : Alike n κ κ') (O : List OpM) : opsOk n κ O = opsOk n κ' O := by
 unfold opsOk
 have e : (O.all fun o => declsOk n κ o.decls) = (O.all fun o => declsOk n κ' o.decls) := by simp only [declsOk_alike h]
 cases hd : (O.all fun o => declsOk n κ o.decls) with
 | false => rw [← e, hd]; simp
 | true =>
  have hO := firsts_of hd
  have e2 : O.all (axOk κ O) = O.all (axOk κ' O) := by
   rw [Bool.eq_iff_iff]
   simp only [List.all_eq_true]
   exact ⟨fun h' o ho => (axOk_alike h hO ho) ▸ h' o ho, fun h' o ho => (axOk_alike h hO ho).symm ▸ h' o ho⟩
  rw [← e, hd, e2]
/-- the kinds of the program (sets) and those of the model (the least sort) -/
def κC (n : Nat) (Q : List (Int × Int)) (x : Int) : Nat := (clo n (both (prs Q))).getD x.toNat 0
def κK (n : Nat) (Q : List (Int × Int)) (x : Int) : Nat := (kin n (prs Q)).getD x.toNat 0
theorem alike_CK {n : Nat} {Q : List (Int × Int)} (hQ : PIn n Q) : Alike n (κC n Q) (κK n Q) := by
 intro x y hx hy
 simp only [inN, decide_eq_true_eq] at hx hy
 obtain ⟨i, rfl⟩ : ∃ i : Nat, x = (i : Int) := ⟨x.toNat, by omega⟩
 obtain ⟨j, rfl⟩ : ∃ j : Nat, y = (j : Int) := ⟨y.toNat, by omega⟩
 have hi : i < n := by omega
 have hj : j < n := by omega
 have hP := hQ.inR
 have hB := both_in hP
 simp only [κC, κK, Int.toNat_natCast]
 obtain ⟨p1, p2, p3⟩ := kin_spec hP hi
 obtain ⟨q1, q2, q3⟩ := kin_spec hP hj
 constructor
 ·intro h
  have k1 := (clo_bit hB hi _).2 ⟨p1, p2⟩
  have k2 := (clo_bit hB hj _).2 ⟨q1, q2⟩
  rw [h] at k1
  rw [← h] at k2
  have := q3 _ ((clo_bit hB hj _).1 k1).2
  have := p3 _ ((clo_bit hB hi _).1 k2).2
  omega
 ·intro h
  rw [← h] at q2
  have hij : rea (both (prs Q)) n i j = true := rea_trans hB hj p2 (rea_symm hP hj p1 q2)
  have hji : rea (both (prs Q)) n j i = true := rea_symm hP hi hj hij
  refine Nat.eq_of_testBit_eq fun b => ?_
  rw [Bool.eq_iff_iff, clo_bit hB hi, clo_bit hB hj]
  exact ⟨fun h => ⟨h.1, rea_trans hB h.1 hji h.2⟩, fun h => ⟨h.1, rea_trans hB h.1 hij h.2⟩⟩

/-- the signature is valid -/
def sigOk (P : List (List UInt8)) (Q : List (Int × Int)) (O : List OpM) : Bool := okS P Q && opsOk P.length (κK P.length Q) O
theorem sigOk_C (P : List (List UInt8)) (Q : List (Int × Int)) (O : List OpM) : sigOk P Q O = (okS P Q && opsOk P.length (κC P.length Q) O) := by
 unfold sigOk
 cases h : okS P Q with
 | false => rfl
 | true => rw [opsOk_alike (alike_CK (okS_parts h).2.2.1)]
theorem sigOk_parts {P : List (List UInt8)} {Q : List (Int × Int)} {O : List OpM} (h : sigOk P Q O = true) :
  okS P Q = true ∧ O.length ≤ 14 ∧ namesTo (nms O) O.length = true ∧ (∀ o ∈ O, declsOk P.length (κK P.length Q) o.decls = true) ∧ ∀ o ∈ O, axOk (κK P.length Q) O o = true := by
 simp only [sigOk, opsOk, Bool.and_eq_true, List.all_eq_true, decide_eq_true_eq] at h
 exact ⟨h.1, h.2.1.1.1, h.2.1.1.2, h.2.1.2, h.2.2⟩
theorem take_not {N : List (List UInt8)} {x : List UInt8} {k : Nat} (hk : k < N.length) (h : x ∉ N.take k) (h2 : ¬ N.getD k [] = x) : x ∉ N.take (k + 1) := by
 rw [List.take_succ_eq_append_getElem hk]
 have h3 : N.getD k [] = N[k] := by simp [List.getD, List.getElem?_eq_getElem hk]
 rw [h3] at h2
 simp only [List.mem_append, List.mem_singleton, not_or]
 exact ⟨h, fun e => h2 e.symm⟩
end Go.Proofs.YtkkmjaggebjcbaaGreat.sigm
/-
 PLAIN MATHEMATICS OF THE SORTS OF TERMS: what declarations give, closed upwards, over all ways to combine arguments two at a time.
-/
namespace Go.Proofs.YtkkmjaggebjcbaaGreat.tsm
open mem setm sortm sortn sortp sorti sigm

/-! ### sums of sets -/
def orL {α : Type} (f : α → Nat) (L : List α) : Nat := L.foldl (fun s x => s ||| f x) 0
/-! ### closed upwards -/
def upC (U : List Nat) (S : Nat) : Nat := orL (fun k => U.getD k 0) (els S)
/-! ### what the declarations give -/
/-- the first k arguments have the sorts at their places -/
def fitTo (A : List Nat) (d : List Int) (k : Nat) : Bool := (List.range k).all fun i => (A.getD i 0).testBit (d.getD i 0).toNat
def fitD (A : List Nat) (d : List Int) : Bool := fitTo A d d.length
def givF (A : List Nat) (d : List Int × Int) : Nat := if fitD A d.1 then 2 ^ d.2.toNat else 0
def giveR (D : List (List Int × Int)) (A : List Nat) : Nat := orL (givF A) D
/-- declarations over n sorts, each of m arguments -/
def DeclN (n m : Nat) (D : List (List Int × Int)) : Prop := ∀ d ∈ D, d.1.length = m ∧ inN n d.2 = true ∧ ∀ k, k < m → inN n (d.1.getD k 0) = true
theorem DeclN.take {n m : Nat} {D : List (List Int × Int)} (h : DeclN n m D) (k : Nat) : DeclN n m (D.take k) := fun d hd => h d (List.mem_of_mem_take hd)
/-! ### groups of arguments: a group is the set of their places -/
def leftsF (g : Nat) : Nat → Nat → List Nat
 | 0, _ => []
 | f + 1, l => if l = 0 then [] else l :: leftsF g f ((l - 1) &&& g)
/-- the parts of a group, in the order in which they are tried -/
def lefts (g : Nat) : List Nat := leftsF g g ((g - 1) &&& g)
/-- every element of the first is less than the least one of the second -/
def befo (l r : Nat) : Bool := decide (l < r &&& (65536 - r))
/-- the part of a group that is left when l is taken -/
abbrev rest (g l : Nat) : Nat := g ^^^ l
def leftsC (com : Bool) (g : Nat) : List Nat := (lefts g).filter fun l => com || befo l (rest g l)
section
variable (com : Bool) (U : List Nat) (D : List (List Int × Int)) (A : List Nat)
/-- the place of a group of one -/
def oneOf (g : Nat) : Option Nat := (List.range 16).find? fun i => g == 2 ^ i
def valV (t : List Nat) (g : Nat) : Nat :=
 match oneOf g with
 | some i => A.getD i 0
 | none => upC U (orL (fun l => giveR D [t.getD l 0, t.getD (rest g l) 0]) (leftsC com g))
def tabV : Nat → List Nat
 | 0 => []
 | k + 1 => tabV k ++ [valV com U D A (tabV k) k]
/-- the sorts of a group of arguments, by all ways to combine them -/
def V (g : Nat) : Nat := valV com U D A (tabV com U D A g) g
end
/-! ### how many are in a group -/
section
variable {com : Bool} {U : List Nat} {D : List (List Int × Int)} {A : List Nat}
end

/-! ### arguments in their order: a group is an interval -/
/-! ### the sorts of an application -/
end Go.Proofs.YtkkmjaggebjcbaaGreat.tsm
/-
 DECLARATIONS, OPERATORS AND SIGNATURES IN MEMORY; CONTRACTS OF THE LAWS' OWN FUNCTIONS ON THEM (sz.., to.., eq..).
-/
namespace Go.Proofs.YtkkmjaggebjcbaaGreat.sigs
open Go.ChangeShapes Go.WideShapes Go.ChangeAt Go.RowKit
open mem split strl join subs setm sortp sorti rowl sigm

/-- a declaration in two cells -/
def RD : Reads (List Int × Int) := fun lo w cs d => ∃ va, cs = [va, .int .i64 d.2] ∧ HasL lo w va (ivs d.1) ∧ I64 d.2 ∧ ∀ x ∈ d.1, I64 x
theorem RD_steady : Steady RD := ⟨fun ⟨va, e, h, r⟩ hk => ⟨va, e, h.kept hk, r⟩, fun ⟨va, e, h, r⟩ hl => ⟨va, e, h.mono hl, r⟩⟩
/-- declarations -/
abbrev HasD (lo : Nat) (w : World) (v : Value) (D : List (List Int × Int)) : Prop := HasR RD 2 lo w v D
theorem HasL.shape {lo : Nat} {w : World} {v : Value} {xs : List Value} (h : HasL lo w v xs) {n : Nat} (hn : xs.length = n) : ∃ A c, v = .slice A n c ∧ HasL lo w (.slice A n c) xs := by
 subst hn
 obtain ⟨A, c, rfl, h'⟩ := h
 exact ⟨A, c, rfl, A, c, rfl, h'⟩
theorem decl_at {lo : Nat} {w : World} {A : Option Addr} {n c : Nat} {D : List (List Int × Int)} (h : HasD lo w (.slice A n c) D) {j : Nat} (hj : j < n) :
  ∃ g o A2 c2, A = some ⟨g, o, none⟩ ∧ lo ≤ g ∧ g < w.heap.size ∧ w.cell? ⟨g, o + j * 2, none⟩ = some (.slice A2 (D.getD j default).1.length c2) ∧ w.cell? ⟨g, o + j * 2 + 1, none⟩ = some (.int .i64 (D.getD j default).2) ∧
   HasL lo w (.slice A2 (D.getD j default).1.length c2) (ivs (D.getD j default).1) ∧ I64 (D.getD j default).2 ∧ ∀ x ∈ (D.getD j default).1, I64 x := by
 obtain ⟨g, o, cs, e, hl, hg, hc, va, rfl, hh, h1, h2⟩ := h.get hj
 obtain ⟨A2, c2, rfl, hh'⟩ := HasL.shape hh (ivs_len _)
 exact ⟨g, o, A2, c2, e, hl, hg, hc 0 (by omega), hc 1 (by omega), hh', h1, h2⟩
/-- an operator in five cells -/
def RO : Reads OpM := fun lo w cs o => ∃ va, cs = [.string (bstr o.name), va, .bool o.ass, .bool o.com, .int .i64 o.unt] ∧ HasD lo w va o.decls ∧ o.name.length ≤ maxLen ∧ I64 o.unt
theorem RO_steady : Steady RO := ⟨fun ⟨va, e, h, r⟩ hk => ⟨va, e, h.kept RD_steady hk, r⟩, fun ⟨va, e, h, r⟩ hl => ⟨va, e, h.mono RD_steady hl, r⟩⟩
abbrev HasO (lo : Nat) (w : World) (v : Value) (O : List OpM) : Prop := HasR RO 5 lo w v O
theorem op_at {lo : Nat} {w : World} {A : Option Addr} {n c : Nat} {O : List OpM} (h : HasO lo w (.slice A n c) O) {j : Nat} (hj : j < n) :
  ∃ g o A2 c2, A = some ⟨g, o, none⟩ ∧ lo ≤ g ∧ g < w.heap.size ∧ w.cell? ⟨g, o + j * 5, none⟩ = some (.string (bstr (O.getD j default).name)) ∧ w.cell? ⟨g, o + j * 5 + 1, none⟩ = some (.slice A2 (O.getD j default).decls.length c2) ∧
   w.cell? ⟨g, o + j * 5 + 2, none⟩ = some (.bool (O.getD j default).ass) ∧ w.cell? ⟨g, o + j * 5 + 3, none⟩ = some (.bool (O.getD j default).com) ∧ w.cell? ⟨g, o + j * 5 + 4, none⟩ = some (.int .i64 (O.getD j default).unt) ∧
   HasD lo w (.slice A2 (O.getD j default).decls.length c2) (O.getD j default).decls ∧ (O.getD j default).name.length ≤ maxLen ∧ I64 (O.getD j default).unt := by
 obtain ⟨g, o, cs, e, hl, hg, hc, va, rfl, hh, h1, h2⟩ := h.get hj
 obtain ⟨A2, c2, rfl, hh'⟩ := HasR.shape hh rfl
 exact ⟨g, o, A2, c2, e, hl, hg, hc 0 (by omega), hc 1 (by omega), hc 2 (by omega), hc 3 (by omega), hc 4 (by omega), hh', h1, h2⟩
/-- a signature -/
structure HasG (w : World) (va vb vc : Value) (P : List (List UInt8)) (Q : List (Int × Int)) (O : List OpM) : Prop where
 s : HasS w va vb P Q
 o : HasO 0 w vc O
theorem HasG.below {w w' : World} {va vb vc : Value} {P : List (List UInt8)} {Q : List (Int × Int)} {O : List OpM} (h : HasG w va vb vc P Q O) {B : Nat} (hB : w.heap.size ≤ B) (hb : Below B w w') : HasG w' va vb vc P Q O := ⟨h.s.below hB hb, h.o.below RO_steady hB hb⟩
theorem HasG.shape {w : World} {va vb vc : Value} {P : List (List UInt8)} {Q : List (Int × Int)} {O : List OpM} (h : HasG w va vb vc P Q O) :
  ∃ A ca B cb C cc, va = .slice A P.length ca ∧ vb = .slice B Q.length cb ∧ vc = .slice C O.length cc ∧ P.length ≤ 9223372036854775807 ∧ Q.length ≤ 9223372036854775807 ∧ O.length ≤ 9223372036854775807 ∧
   HasG w (.slice A P.length ca) (.slice B Q.length cb) (.slice C O.length cc) P Q O := by
 obtain ⟨A, ca, B, cb, rfl, rfl, h1, h2, hs⟩ := h.s.shape
 obtain ⟨C, cc, rfl, ho⟩ := HasR.shape h.o rfl
 exact ⟨A, ca, B, cb, C, cc, rfl, rfl, rfl, h1, h2, ho.len.2.1, hs, ho⟩

/-- small enough -/
def SmD (D : List (List Int × Int)) : Prop := D.length ≤ 1048576 ∧ ∀ j, j < D.length → (D.getD j default).1.length ≤ 1048576
def SmO (O : List OpM) : Prop := O.length ≤ 1048576 ∧ ∀ j, j < O.length → SmD (O.getD j default).decls
end Go.Proofs.YtkkmjaggebjcbaaGreat.sigs
/-
 THE PROGRAM's FUNCTIONS OF THE SORTS OF TERMS: isBefore, upward, haveSorts, the results of declarations.
-/
namespace Go.Proofs.YtkkmjaggebjcbaaGreat.tsi
open Go.ChangeShapes Go.WideShapes Go.ChangeAt Go.RowKit
open mem split strl subs sortn setm sets sortm sortp sorti rowl sigm sigs tsm

end Go.Proofs.YtkkmjaggebjcbaaGreat.tsi
/-
 THE PROGRAM's SEVEN FUNCTIONS OF SORTS: IsSorts, AboveSort, BelowSort, KindOfSort, LeastSorts, GreatestSorts, CommonSorts.
-/
namespace Go.Proofs.YtkkmjaggebjcbaaGreat.sortf
open Go.ChangeShapes Go.WideShapes Go.ChangeAt Go.RowKit
open mem split strl subs sortn setm sets sortm sortp sorti

/-- impl.IsSorts -/
theorem iIsSorts_any (P : List (List UInt8)) (Q : List (Int × Int)) (va vb : Value) (r : Bool) (hr : okS P Q = r) (w : World) (h : HasS w va vb P Q) :
  Calls Tryz.prog 155 #[.agg #[va, vb]] w fun e w' => e = .returned (.bool r) ∧ Below w.heap.size w w' := by
 have HO := Lib.hid (fun W hW => sortOrder_any P Q va vb W (h.below (Nat.le_refl _) hW))
 obtain ⟨A, ca, B, cb, rfl, rfl, hla, hlb, h'⟩ := h.shape
 have hne : ∀ (m : Option Nat) (W : World), (binOp .neq 75 (.map m) (.map none)).run Tryz.prog W = .ok (.bool (!m.isNone)) W := fun m W => run_neq_map_nil W 75 _ _ m Tryz.underlying75
 clear h h'
 subst hr
 cases hok : okS P Q with
 | false =>
  have HOK := Lib.hid hok
  clear hok
  go_enter Tryz.func155, Tryz.ntmps155
  go_wp2_with (go_at_call 105; refine (HO.out _ ((Below.refl _ _).alloc (Nat.le_refl _) _)).mono ?_; rintro e w1 ⟨mv, rfl, hM, hy, hno, hb1⟩; obtain rfl := hno HOK.out; clear hM hy hno)
  go_ret
  exact ⟨rfl, ((Below.refl _ _).alloc (Nat.le_refl _) _).trans (hb1.mono (by simp))⟩
 | true =>
  have HOK := Lib.hid hok
  clear hok
  go_enter Tryz.func155, Tryz.ntmps155
  go_wp2_with (go_at_call 105; refine (HO.out _ ((Below.refl _ _).alloc (Nat.le_refl _) _)).mono ?_; rintro e w1 ⟨mv, rfl, hM, hy, hno, hb1⟩; obtain ⟨b, rfl⟩ := hy HOK.out; clear hM hno)
  go_ret
  exact ⟨rfl, ((Below.refl _ _).alloc (Nat.le_refl _) _).trans (hb1.mono (by simp))⟩
/-- two cells stay, whatever a call adds -/
theorem held2 {wr w0 w1 : World} {p q : Addr} {a b : Value} (h : (w0.cell? p = some a ∧ w0.cell? q = some b) ∧ Below wr.heap.size wr w0) (hp : p.block < wr.heap.size ∧ q.block < wr.heap.size) (hb : Below w0.heap.size w0 w1) :
  (w1.cell? p = some a ∧ w1.cell? q = some b) ∧ Below wr.heap.size wr w1 := by
 have hs := h.2.size
 exact ⟨⟨(hb.cell (by omega)).trans h.1.1, (hb.cell (by omega)).trans h.1.2⟩, h.2.trans (hb.mono hs)⟩
/-- the kinds as a list of sets; none if the sorts are not valid -/
def kindsU (P : List (List UInt8)) (Q : List (Int × Int)) : List Nat := if okS P Q then clo P.length (both (prs Q)) else []
theorem kindsU_len (P : List (List UInt8)) (Q : List (Int × Int)) : (kindsU P Q).length = if okS P Q then P.length else 0 := by
 unfold kindsU; split
 ·rw [clo_len]
 ·rfl
/-- impl.sortKinds -/
theorem sortKinds_any (P : List (List UInt8)) (Q : List (Int × Int)) (va vb : Value) (w : World) (h : HasS w va vb P Q) :
  Calls Tryz.prog 118 #[.agg #[va, vb]] w fun e w' => ∃ mv, e = .returned mv ∧ MapU w' mv (kindsU P Q) ∧ (okS P Q = true → ∃ b, mv = .map (some b)) ∧ (okS P Q = false → mv = .map none) ∧ Below w.heap.size w w' := by
 have HIS := Lib.hid (fun r hr W hW => iIsSorts_any P Q va vb r hr W (h.below (Nat.le_refl _) hW))
 obtain ⟨A, ca, B, cb, rfl, rfl, hla, hlb, h'⟩ := h.shape
 have HH := Lib.hid h'
 clear h h'
 cases hok : okS P Q with
 | false =>
  have HQ : Hid (kindsU P Q = []) := Lib.hid (by rw [kindsU, hok]; rfl)
  have HOK := Lib.hid hok
  have HI := Lib.hid (HIS.out false hok)
  clear hok
  go_enter Tryz.func118, Tryz.ntmps118
  go_wp2_with (go_at_call 155; refine (HI.out _ ((Below.refl _ _).alloc (Nat.le_refl _) _)).mono ?_; rintro e w1 ⟨rfl, hb1⟩)
  go_ret
  exact ⟨_, rfl, .inl ⟨rfl, HQ.out⟩, fun e => (by cases e), fun _ => rfl, ((Below.refl _ _).alloc (Nat.le_refl _) _).trans (hb1.mono (by simp))⟩
 | true =>
  obtain ⟨p1, p2, p3, p4, p5⟩ := okS_parts hok
  have HQ : Hid (kindsU P Q = clo P.length (both (prs Q))) := Lib.hid (by rw [kindsU, if_pos hok])
  have HOK := Lib.hid hok
  have HI := Lib.hid (HIS.out true hok)
  have HB := Lib.hid (fun W hW => bothDirections_any Q p4 _ W (HH.out.below (Nat.le_refl _) hW).b)
  have HCL := Lib.hid (fun v W hW => closePairs_any P.length (by omega) (bothQ Q) (by rw [bothQ_len]; omega) (bothQ_pin p3) v W hW)
  rw [bothQ_prs] at HCL
  clear hok p1 p2 p3 p4 p5
  go_enter Tryz.func118, Tryz.ntmps118
  go_wp2_with fail
  refine (HI.out _ ((Below.refl _ _).alloc (Nat.le_refl _) _)).mono ?_
  rintro e w1 ⟨rfl, hb1⟩
  have hbw : Below w.heap.size w w1 := ((Below.refl _ _).alloc (Nat.le_refl _) _).trans (hb1.mono (by simp))
  have c0 : w1.cell? ⟨w.heap.size, 0, none⟩ = some (.slice A P.length ca) := by rw [hb1.cell (p := ⟨w.heap.size, 0, none⟩) (by simp)]; simp
  have c1 : w1.cell? ⟨w.heap.size, 1, none⟩ = some (.slice B Q.length cb) := by rw [hb1.cell (p := ⟨w.heap.size, 1, none⟩) (by simp)]; simp
  have hs1 : w.heap.size < w1.heap.size := by have := hb1.size; simp at this; omega
  clear hb1
  go_wp2_with fail
  go_region_held3 (fun w' => (w'.cell? ⟨w.heap.size, 0, none⟩ = some (.slice A P.length ca) ∧ w'.cell? ⟨w.heap.size, 1, none⟩ = some (.slice B Q.length cb)) ∧ Below w1.heap.size w1 w')
   (first | (refine ⟨⟨?_, ?_⟩, (Below.refl _ _).drew⟩ <;> assumption) | (go_split_ands; exact held2 (p := ⟨w.heap.size, 0, none⟩) (q := ⟨w.heap.size, 1, none⟩) ⟨⟨by assumption, by assumption⟩, by assumption⟩ ⟨hs1, hs1⟩ (by assumption)))
   (first
    | (go_at_call 156; go_split_ands; refine (HB.out _ (hbw.trans (Below.mono (by assumption) hbw.size))).mono ?_; rintro e w2 ⟨bv, rfl, hbv, hb2⟩; have HBV := Lib.hid hbv; clear hbv)
    | (go_at_call 148; go_split_ands; refine (HCL.out _ _ HBV.out).mono ?_; rintro e w3 ⟨b, rfl, hM, hb3⟩; have HM := Lib.hid hM; clear hM))
  go_wp2
  have hh : (w3.cell? ⟨w.heap.size, 0, none⟩ = some (.slice A P.length ca) ∧ w3.cell? ⟨w.heap.size, 1, none⟩ = some (.slice B Q.length cb)) ∧ Below w1.heap.size w1 w3 := by assumption
  go_ret
  exact ⟨_, rfl, by rw [HQ.out]; exact HM.out, fun _ => ⟨_, rfl⟩, fun e => (by cases e), hbw.trans (hh.2.mono hbw.size)⟩
end Go.Proofs.YtkkmjaggebjcbaaGreat.sortf
/-
 THE PROGRAM's FUNCTIONS OF SIGNATURES: shapes and their comparison, shapeOf, shapeOfTwo, commonShape.
-/
namespace Go.Proofs.YtkkmjaggebjcbaaGreat.sigi
open Go.ChangeShapes Go.WideShapes Go.ChangeAt Go.RowKit
open mem split strl subs sortn setm sets sortm sortp sorti sortf rowl sigm sigs

/-- what the declarations of an operator have in common: the arity, the kinds at its three places, and the result's -/
abbrev Shp := Nat × Nat × Nat × Nat × Nat
def pl (κ : Int → Nat) (L : List Int) (i : Nat) : Nat := if i < L.length then κ (L.getD i 0) else 0
def shp (κ : Int → Nat) (d : List Int × Int) : Shp := (d.1.length, pl κ d.1 0, pl κ d.1 1, pl κ d.1 2, κ d.2)
def zsh : Shp := (0, 0, 0, 0, 0)
def shcs (s : Shp) : List Value := [.int .i64 (s.1 : Int), .int .u16 (s.2.1 : Int), .int .u16 (s.2.2.1 : Int), .int .u16 (s.2.2.2.1 : Int), .int .u16 (s.2.2.2.2 : Int)]
def shv (s : Shp) : Value := .agg #[.int .i64 (s.1 : Int), .int .u16 (s.2.1 : Int), .int .u16 (s.2.2.1 : Int), .int .u16 (s.2.2.2.1 : Int), .int .u16 (s.2.2.2.2 : Int)]
theorem shp_iff {n : Nat} {κ : Int → Nat} {d e : List Int × Int} (hd : okD n d = true) (he : okD n e = true) : shp κ d = shp κ e ↔ kD κ d = kD κ e := by
 obtain ⟨l, x⟩ := d
 obtain ⟨m, y⟩ := e
 have h1 : l.length ≤ 3 := (okD_parts hd).1
 have h2 : m.length ≤ 3 := (okD_parts he).1
 simp only [shp, kD, Prod.mk.injEq]
 match l, m, h1, h2 with
 | [], [], _, _ => simp [pl]
 | [], _ :: _, _, _ => simp
 | _ :: _, [], _, _ => simp
 | [a], [b], _, _ => simp [pl]
 | [a], _ :: _ :: _, _, _ => simp
 | _ :: _ :: _, [b], _, _ => simp
 | [a, a'], [b, b'], _, _ => simp [pl, and_assoc]
 | [a, a'], _ :: _ :: _ :: _, _, _ => simp
 | _ :: _ :: _ :: _, [b, b'], _, _ => simp
 | [a, a', a''], [b, b', b''], _, _ => simp [pl, and_assoc]
 | _ :: _ :: _ :: _ :: _, _, h, _ => simp at h
 | _, _ :: _ :: _ :: _ :: _, _, h => simp at h
/-- two shapes compared -/
theorem run_shape (w : World) (a b x0 x1 x2 y0 y1 y2 r s : Int) :
  (Op.equalIn 10000 135 (.agg #[.int .i64 a, .int .u16 x0, .int .u16 x1, .int .u16 x2, .int .u16 r]) (.agg #[.int .i64 b, .int .u16 y0, .int .u16 y1, .int .u16 y2, .int .u16 s])).run Tryz.prog w =
   .ok (decide (a = b ∧ x0 = y0 ∧ x1 = y1 ∧ x2 = y2 ∧ r = s)) w := by
 have h1 : Tryz.prog.stoodInHeld 135 = false := by kernel_rfl
 have h2 : Tryz.prog.underlying 135 = some (.struct (Tryz.prog.fieldsOf 135)) := by kernel_rfl
 have hi : Tryz.prog.info? 132 = some (Tryz.prog.info? 132).get! := by kernel_rfl
 have hc : Tryz.prog.cellsOf 132 = 1 := by kernel_rfl
 have e1 : ∀ a b : Int, ∀ W, (Op.equalIn 9999 3 (.int .i64 a) (.int .i64 b)).run Tryz.prog W = .ok (a == b) W := fun a b W => run_equalIn_int W 9998 _ _ _ a b Tryz.underlying3
 have e2 : ∀ a b : Int, ∀ W, (Op.equalIn 9999 132 (.int .u16 a) (.int .u16 b)).run Tryz.prog W = .ok (a == b) W := fun a b W => run_equalIn_int W 9998 _ _ _ a b Tryz.underlying132
 have e3 : ∀ a b : Int, ∀ W, (Op.equalIn 9998 132 (.int .u16 a) (.int .u16 b)).run Tryz.prog W = .ok (a == b) W := fun a b W => run_equalIn_int W 9997 _ _ _ a b Tryz.underlying132
 have e4 : ∀ xs ys W, (Op.equalIn 9999 133 (.agg xs) (.agg ys)).run Tryz.prog W = (Op.eqItems 9998 132 (Tryz.prog.cellsOf 132) xs ys (List.range 3)).run Tryz.prog W :=
  fun xs ys W => run_equalIn_array W 9998 xs ys Tryz.underlying133 hi
 rw [run_equalIn_agg w 9999 _ _ _ h2 h1]
 simp only [Program.fieldsOf, Tryz.underlying135]
 simp [Op.eqFields, part, e1, e2, e4, hc, List.range_succ, Op.eqItems, e3]
 (repeat' split) <;> simp_all
theorem shv_eq (s t : Shp) : decide ((s.1 : Int) = (t.1 : Int) ∧ (s.2.1 : Int) = (t.2.1 : Int) ∧ (s.2.2.1 : Int) = (t.2.2.1 : Int) ∧ (s.2.2.2.1 : Int) = (t.2.2.2.1 : Int) ∧ (s.2.2.2.2 : Int) = (t.2.2.2.2 : Int)) = decide (s = t) := by
 obtain ⟨a, b, c, d, e⟩ := s
 obtain ⟨a', b', c', d', e'⟩ := t
 simp only [Prod.mk.injEq, decide_eq_decide]
 omega
/-- '==' and '!=' of shapes -/
theorem eql_shape (s t : Shp) (r : Bool) (hr : decide (s = t) = r) (w : World) : (binOp .eql 135 (shv s) (shv t)).run Tryz.prog w = .ok (.bool r) w := by
 rw [shv, shv, run_eql_struct, run_shape, shv_eq, hr]; rfl
theorem neq_shape (s t : Shp) (r : Bool) (hr : decide (s = t) = r) (w : World) : (binOp .neq 135 (shv s) (shv t)).run Tryz.prog w = .ok (.bool (!r)) w := by
 rw [shv, shv, run_neq_struct, run_shape, shv_eq, hr]; rfl
/-- impl.shapeOfTwo -/
theorem shapeOfTwo_any (a b : Nat) (w : World) :
  Calls Tryz.prog 184 #[.int .u16 (a : Int), .int .u16 (b : Int)] w fun e w' => e = .returned (shv (2, a, a, 0, b)) ∧ Below w.heap.size w w' := by
 go_enter Tryz.func184, Tryz.ntmps184
 go_wp2
 refine bodyPost_ret (v := shv (2, a, a, 0, b)) (by simp [results, Tryz.results184, go_sem, shv]) rfl ⟨rfl, ?_⟩
 repeat (first | exact Below.refl _ _ | refine Below.setCell ?_ (by first | (simp; done) | (simp; omega)) _ | refine Below.alloc ?_ (by first | (simp; done) | (simp; omega)) _)
/-- a block after one of its cells has been set -/
theorem row_set {w : World} {g : Nat} {cs : Array Value} {t : TypeId} {fz : Nat × Nat} (h : w.heap[g]? = some (.cells cs t fz)) (j : Nat) (u : Value) : (w.setCell ⟨g, j, none⟩ u).heap[g]? = some (.cells (cs.setIfInBounds j u) t fz) := by
 simp [World.setCell, Array.getElem?_modify, h]
def shpR (r : Bool) (κ : Int → Nat) (d : List Int × Int) : Shp := if r then shp κ d else zsh
def plk (κ : Int → Nat) (L : List Int) (k i : Nat) : Nat := if i < k then κ (L.getD i 0) else 0
theorem okD_bad {n : Nat} {L : List Int} {x : Int} {k : Nat} (hk : k < L.length) (h : inN n (L.getD k 0) = false) : okD n (L, x) = false := by
 have : L.all (inN n) = false := by
  rw [List.all_eq_false]
  refine ⟨L[k], List.getElem_mem hk, ?_⟩
  simpa [List.getD, List.getElem?_eq_getElem hk] using h
 simp [okD, this]
theorem okD_good {n : Nat} {L : List Int} {x : Int} (h1 : L.length ≤ 3) (h2 : inN n x = true) (h3 : ∀ k, k < L.length → inN n (L.getD k 0) = true) : okD n (L, x) = true := by
 simp only [okD, Bool.and_eq_true, decide_eq_true_eq, List.all_eq_true]
 refine ⟨⟨h1, h2⟩, fun y hy => ?_⟩
 obtain ⟨k, hk, rfl⟩ := List.getElem_of_mem hy
 have := h3 k hk
 simpa [List.getD, List.getElem?_eq_getElem hk] using this
def κU (U : List Nat) (x : Int) : Nat := U.getD x.toNat 0
theorem κU_at {U : List Nat} {x : Int} (h : inN U.length x = true) : atU U x = κU U x := by
 simp only [inN, decide_eq_true_eq] at h
 simp [atU, κU, h.1]
set_option maxRecDepth 20000 in
/-- impl.shapeOf -/
theorem shapeOf_any (U : List Nat) (_hU : Lim U) (L : List Int) (x : Int) (hx : I64 x) (hL : ∀ y ∈ L, I64 y) (r : Bool) (hr : okD U.length (L, x) = r) (va mv : Value) (w : World) (h : Has w va (ivs L)) (hM : MapU w mv U) :
  Calls Tryz.prog 183 #[.agg #[va, .int .i64 x], mv] w fun e w' => e = .returned (.tuple #[shv (shpR r (κU U) (L, x)), .bool r]) ∧ Below w.heap.size w w' := by
 have HHS := Lib.hid (fun x (hx : I64 x) r hr W (hW : Below w.heap.size w W) => hasSort_any U mv x hx.1 hx.2 r hr W (hM.below hW))
 have HLK := Lib.hid (fun x (hx : I64 x) W (hW : Below w.heap.size w W) => (hM.below hW).look hx.1 hx.2)
 obtain ⟨m, hm⟩ : ∃ m, m = L.length := ⟨_, rfl⟩
 obtain ⟨A, ca, rfl, h'⟩ := h.shape ((ivs_len L).trans hm.symm)
 have hlm := h'.len.2
 have HH := Lib.hid h'
 have HM := Lib.hid hm
 have HX := Lib.hid hx
 have HL64 := Lib.hid hL
 clear h h' hM hm hL hx
 by_cases hbig : 3 < m
 ·have HR : Hid (r = false) := Lib.hid (by rw [← hr, okD]; have := HM.out; simp; omega)
  clear hr
  go_enter Tryz.func183, Tryz.ntmps183
  go_wp2
  refine bodyPost_ret (v := .tuple #[shv zsh, .bool false]) (by simp [results, Tryz.results183, go_sem, shv, zsh]) rfl ⟨by rw [HR.out]; rfl, ?_⟩
  repeat (first | exact Below.refl _ _ | refine Below.setCell ?_ (by first | (simp; done) | (simp; omega)) _ | refine Below.alloc ?_ (by first | (simp; done) | (simp; omega)) _)
 cases hres : inN U.length x with
 | false =>
  have HR : Hid (r = false) := Lib.hid (by rw [← hr, okD, hres]; simp)
  have HS := Lib.hid (fun W hW => HHS.out x HX.out false hres W hW)
  clear hr hres
  go_enter Tryz.func183, Tryz.ntmps183
  go_wp2_with fail
  refine (HS.out _ ?_).mono ?_
  ·repeat (first | exact Below.refl _ _ | refine Below.setCell ?_ (by first | (simp; done) | (simp; omega)) _ | refine Below.alloc ?_ (by first | (simp; done) | (simp; omega)) _)
  rintro e w1 ⟨rfl, rfl⟩
  go_wp2
  refine bodyPost_ret (v := .tuple #[shv zsh, .bool false]) (by simp [results, Tryz.results183, go_sem, shv, zsh]) rfl ⟨by rw [HR.out]; rfl, ?_⟩
  repeat (first | exact Below.refl _ _ | refine Below.setCell ?_ (by first | (simp; done) | (simp; omega)) _ | refine Below.alloc ?_ (by first | (simp; done) | (simp; omega)) _)
 | true =>
  have HS := Lib.hid (fun W hW => HHS.out x HX.out true hres W hW)
  have HLR := Lib.hid (fun W hW => HLK.out x HX.out W hW)
  have hat := κU_at hres
  have HRES := Lib.hid hres
  rw [hat] at HLR
  obtain ⟨c, hc⟩ : ∃ c, c = κU U x := ⟨_, rfl⟩
  rw [← hc] at HLR
  have HC := Lib.hid hc
  clear hres hat hc
  go_enter Tryz.func183, Tryz.ntmps183
  go_wp2_with fail
  refine (HS.out _ ?_).mono ?_
  ·repeat (first | exact Below.refl _ _ | refine Below.setCell ?_ (by first | (simp; done) | (simp; omega)) _ | refine Below.alloc ?_ (by first | (simp; done) | (simp; omega)) _)
  rintro e w1 ⟨rfl, hw⟩
  have hb1 : Below w.heap.size w w1 := by rw [← hw]; repeat (first | exact Below.refl _ _ | refine Below.alloc ?_ (by first | (simp; done) | (simp; omega)) _)
  have hsz1 : w1.heap.size = w.heap.size + 2 := by rw [← hw]; simp
  have k0 : w1.heap[w.heap.size]? = some (.cells #[.slice A m ca, .int .i64 x] 123 (0, 0)) := by rw [← hw, Below.heap_alloc _ _ _ (by simp)]; exact heap_at _ _ _ rfl
  have k1 : w1.heap[w.heap.size + 1]? = some (.cells #[.int .i64 0, .int .u16 0, .int .u16 0, .int .u16 0, .int .u16 0] 135 (0, 0)) := by rw [← hw]; exact heap_at _ _ _ (by simp)
  have c0 : w1.cell? ⟨w.heap.size, 0, none⟩ = some (.slice A m ca) := cell_of_row w1 _ 0 _ _ _ k0
  have c1 : w1.cell? ⟨w.heap.size, 1, none⟩ = some (.int .i64 x) := cell_of_row w1 _ 1 _ _ _ k0
  have hlr0 := HLR.out w1 hb1
  have K1 := Lib.hid k1
  clear hw k0 k1
  go_wp2_with fail
  go_loopw [32] (fun i wr => ∃ k : Nat, k ≤ m ∧ i = .int .i64 k ∧ Hid (∀ j, j < k → inN U.length (L.getD j 0) = true) ∧
    Hid (wr.heap[w.heap.size + 2]? = some (.cells #[.int .i64 (m : Int), .int .u16 ((plk (κU U) L k 0 : Nat) : Int), .int .u16 ((plk (κU U) L k 1 : Nat) : Int), .int .u16 ((plk (κU U) L k 2 : Nat) : Int), .int .u16 (c : Int)] 135 (0, 0))) ∧
    Hid (wr.heap[w.heap.size + 1]? = some (.cells #[.int .i64 0, .int .u16 0, .int .u16 0, .int .u16 0, .int .u16 0] 135 (0, 0))) ∧ Below w.heap.size w wr) (fun i _ => m - (intOf i).toNat)
  case atStart =>
   refine ⟨0, Nat.zero_le _, rfl, Lib.hid (fun j hj => by omega), Lib.hid ?_, Lib.hid ?_, hb1.alloc (by omega) _⟩
   ·exact heap_at _ _ _ hsz1.symm
   ·rw [Below.heap_alloc _ _ _ (by omega)]; exact K1.out
  case round =>
   obtain ⟨k, hk, rfl, HIN, HS2, HZ, hbel⟩ := hrel
   by_cases hlt : k < m
   ·obtain ⟨ga, oa, rfl, hga, hca⟩ := HH.out.cellAt hlt
    rw [ivs_get L k (by have := HM.out; omega), ← hbel.cell (p := ⟨ga, oa + k, none⟩) hga] at hca
    have hy64 : I64 (L.getD k 0) := HL64.out _ (by rw [List.getD_eq_getElem?_getD, List.getElem?_eq_getElem (by have := HM.out; omega)]; exact List.getElem_mem _)
    have HSK := Lib.hid (fun r hr W hW => HHS.out (L.getD k 0) hy64 r hr W hW)
    have HBE := Lib.hid hbel
    have d0 : wr.cell? ⟨w.heap.size + 1, 0, none⟩ = some (.int .i64 0) := cell_of_row wr _ 0 _ _ _ HZ.out
    have d1 : wr.cell? ⟨w.heap.size + 1, 1, none⟩ = some (.int .u16 0) := cell_of_row wr _ 1 _ _ _ HZ.out
    have d2 : wr.cell? ⟨w.heap.size + 1, 2, none⟩ = some (.int .u16 0) := cell_of_row wr _ 2 _ _ _ HZ.out
    have d3 : wr.cell? ⟨w.heap.size + 1, 3, none⟩ = some (.int .u16 0) := cell_of_row wr _ 3 _ _ _ HZ.out
    have d4 : wr.cell? ⟨w.heap.size + 1, 4, none⟩ = some (.int .u16 0) := cell_of_row wr _ 4 _ _ _ HZ.out
    have hzf : ∀ j, wr.frozen? ⟨w.heap.size + 1, j, none⟩ = false := fun j => frozen_of_row wr _ j _ _ HZ.out
    cases hin : inN U.length (L.getD k 0) with
    | false =>
     have HR : Hid (r = false) := Lib.hid (by rw [← hr]; exact okD_bad (by have := HM.out; omega) hin)
     have HS3 := Lib.hid (HSK.out false hin wr hbel)
     obtain ⟨y, hy⟩ : ∃ y, y = L.getD k 0 := ⟨_, rfl⟩
     rw [← hy] at hca HS3
     have f0 := hzf 0
     have f1 := hzf 1
     have f2 := hzf 2
     have f3 := hzf 3
     have f4 := hzf 4
     clear hin hr hy64 hy hzf c0 c1 hlr0
     go_wp2_with fail
     refine HS3.out.mono ?_
     rintro e w2 ⟨rfl, rfl⟩
     go_wp2
     refine bodyPost_ret (v := .tuple #[shv zsh, .bool false]) (by simp [results, Tryz.results183, go_sem, shv, zsh, d0, d1, d2, d3, d4]) rfl ⟨by rw [HR.out]; rfl, ?_⟩
     repeat (refine Below.setCell ?_ (by first | (simp; done) | (simp; omega)) _)
     exact hbel
    | true =>
     have HS3 := Lib.hid (HSK.out true hin wr hbel)
     have hlk := HLK.out (L.getD k 0) hy64 wr hbel
     rw [κU_at hin] at hlk
     obtain ⟨y, hy⟩ : ∃ y, y = L.getD k 0 := ⟨_, rfl⟩
     rw [← hy] at hca HS3 hlk
     obtain ⟨z, hz⟩ : ∃ z, z = κU U y := ⟨_, rfl⟩
     rw [← hz] at hlk
     have HZZ := Lib.hid hz
     have HYY := Lib.hid hy
     have HIN2 := Lib.hid hin
     have hk3 : k < 3 := by omega
     obtain ⟨v0, hv0⟩ : ∃ v, wr.cell? ⟨w.heap.size + 2, 1 + k, none⟩ = some v := by
      rw [cell_of_row wr _ (1 + k) _ _ _ HS2.out]
      exact ⟨_, Array.getElem?_eq_getElem (by simp; omega)⟩
     have hvf : wr.frozen? ⟨w.heap.size + 2, 1 + k, none⟩ = false := frozen_of_row wr _ (1 + k) _ _ HS2.out
     clear hin hr hy64 hy hz hzf c0 c1 hlr0 d0 d1 d2 d3 d4
     go_wp2_with fail
     refine HS3.out.mono ?_
     rintro e w2 ⟨rfl, rfl⟩
     go_wp2
     go_roundw
     case rel =>
      refine ⟨k + 1, by omega, by go_num, Lib.hid (fun j hj => ?_), Lib.hid ?_, Lib.hid ?_, hbel.setCell (by first | (simp; done) | (simp; omega)) _⟩
      ·by_cases e : j = k
       ·subst e; rw [← HYY.out]; rw [HYY.out]; exact HIN2.out
       ·exact HIN.out j (by omega)
      ·rw [row_set HS2.out]
       have hz := HZZ.out
       have hy := HYY.out
       match k, hk3 with
       | 0, _ => simp [plk, hz, hy]
       | 1, _ => simp [plk, hz, hy]
       | 2, _ => simp [plk, hz, hy]
      ·rw [Below.heap_setCell _ _ _ _ (by simp)]; exact HZ.out
     case measure => simp [intOf]; omega
   ·obtain rfl : k = m := by omega
    have HR : Hid (r = true) := Lib.hid (by rw [← hr]; exact okD_good (by have := HM.out; omega) HRES.out (fun j hj => HIN.out j (by have := HM.out; omega)))
    have HFR : Hid (shpR r (κU U) (L, x) = (k, plk (κU U) L k 0, plk (κU U) L k 1, plk (κU U) L k 2, c)) := Lib.hid (by
     rw [HR.out]
     have := HM.out
     subst this
     rw [HC.out]
     rfl)
    have s0 : wr.cell? ⟨w.heap.size + 2, 0, none⟩ = some (.int .i64 (k : Int)) := cell_of_row wr _ 0 _ _ _ HS2.out
    have s1 : wr.cell? ⟨w.heap.size + 2, 1, none⟩ = some (.int .u16 ((plk (κU U) L k 0 : Nat) : Int)) := cell_of_row wr _ 1 _ _ _ HS2.out
    have s2 : wr.cell? ⟨w.heap.size + 2, 2, none⟩ = some (.int .u16 ((plk (κU U) L k 1 : Nat) : Int)) := cell_of_row wr _ 2 _ _ _ HS2.out
    have s3 : wr.cell? ⟨w.heap.size + 2, 3, none⟩ = some (.int .u16 ((plk (κU U) L k 2 : Nat) : Int)) := cell_of_row wr _ 3 _ _ _ HS2.out
    have s4 : wr.cell? ⟨w.heap.size + 2, 4, none⟩ = some (.int .u16 (c : Int)) := cell_of_row wr _ 4 _ _ _ HS2.out
    have d0 : wr.cell? ⟨w.heap.size + 1, 0, none⟩ = some (.int .i64 0) := cell_of_row wr _ 0 _ _ _ HZ.out
    have d1 : wr.cell? ⟨w.heap.size + 1, 1, none⟩ = some (.int .u16 0) := cell_of_row wr _ 1 _ _ _ HZ.out
    have d2 : wr.cell? ⟨w.heap.size + 1, 2, none⟩ = some (.int .u16 0) := cell_of_row wr _ 2 _ _ _ HZ.out
    have d3 : wr.cell? ⟨w.heap.size + 1, 3, none⟩ = some (.int .u16 0) := cell_of_row wr _ 3 _ _ _ HZ.out
    have d4 : wr.cell? ⟨w.heap.size + 1, 4, none⟩ = some (.int .u16 0) := cell_of_row wr _ 4 _ _ _ HZ.out
    have f0 := frozen_of_row wr _ 0 _ _ HZ.out
    have f1 := frozen_of_row wr _ 1 _ _ HZ.out
    have f2 := frozen_of_row wr _ 2 _ _ HZ.out
    have f3 := frozen_of_row wr _ 3 _ _ HZ.out
    have f4 := frozen_of_row wr _ 4 _ _ HZ.out
    clear hr c0 c1 hlr0
    generalize plk (κU U) L k 0 = p0 at *
    generalize plk (κU U) L k 1 = p1 at *
    generalize plk (κU U) L k 2 = p2 at *
    go_wp2
    refine bodyPost_ret (v := .tuple #[shv (k, p0, p1, p2, c), .bool true]) (by simp [results, Tryz.results183, go_sem, shv, d0, d1, d2, d3, d4]) rfl ⟨by rw [HFR.out, HR.out], ?_⟩
    repeat (refine Below.setCell ?_ (by first | (simp; done) | (simp; omega)) _)
    exact hbel
end Go.Proofs.YtkkmjaggebjcbaaGreat.sigi
/-
 CONTRACTS OF THE LAWS' OWN FUNCTIONS ON DECLARATIONS, OPERATORS AND SIGNATURES: to.. and eq..
-/
namespace Go.Proofs.YtkkmjaggebjcbaaGreat.sigt
open Go.ChangeShapes Go.WideShapes Go.ChangeAt Go.RowKit
open mem split strl join subs setm sortp sorti rowl sigm sigs

theorem info_decl : (Tryz.prog.info? 123).map (fun i => (i.zero, i.size, i.bytes)) = some (some (.agg #[.slice none 0 0, .int .i64 0]), 2, 32) := by kernel_rfl
end Go.Proofs.YtkkmjaggebjcbaaGreat.sigt
/-
 THE PROGRAM's FUNCTIONS OF SIGNATURES: commonShape, opNames, opShapes.
-/
namespace Go.Proofs.YtkkmjaggebjcbaaGreat.sigj
open Go.ChangeShapes Go.WideShapes Go.ChangeAt Go.RowKit
open mem split strl subs sortn setm sets sortm sortp sorti sortf rowl sigm sigs sigi

theorem shv_mk (a b c d f : Nat) : shv (a, b, c, d, f) = .agg #[.int .i64 (a : Int), .int .u16 (b : Int), .int .u16 (c : Int), .int .u16 (d : Int), .int .u16 (f : Int)] := rfl
theorem declsOk_bad {n : Nat} {κ : Int → Nat} {D : List (List Int × Int)} {j : Nat} (hj : j < D.length) (h : okD n (D.getD j default) = false ∨ ¬ kD κ (D.getD j default) = kD κ (hd0 D)) : declsOk n κ D = false := by
 have : (D.all fun d => okD n d && decide (kD κ d = kD κ (hd0 D))) = false := by
  rw [List.all_eq_false]
  refine ⟨D[j], List.getElem_mem hj, ?_⟩
  have e : D.getD j default = D[j] := by simp [List.getD, List.getElem?_eq_getElem hj]
  rw [e] at h
  rcases h with h | h
  ·simp [h]
  ·simp [h]
 simp [declsOk, this]
theorem declsOk_good {n : Nat} {κ : Int → Nat} {D : List (List Int × Int)} (h1 : 1 ≤ D.length) (h2 : D.length ≤ 4) (h3 : ∀ j, j < D.length → okD n (D.getD j default) = true ∧ kD κ (D.getD j default) = kD κ (hd0 D)) : declsOk n κ D = true := by
 simp only [declsOk, Bool.and_eq_true, decide_eq_true_eq, List.all_eq_true]
 refine ⟨⟨h1, h2⟩, fun d hd => ?_⟩
 obtain ⟨k, hk, rfl⟩ := List.getElem_of_mem hd
 have := h3 k hk
 have e : D.getD k default = D[k] := by simp [List.getD, List.getElem?_eq_getElem hk]
 rw [e] at this
 exact this
set_option maxRecDepth 20000 in
set_option maxHeartbeats 4000000 in
/-- impl.commonShape -/
theorem commonShape_any (U : List Nat) (hU : Lim U) (D : List (List Int × Int)) (r : Bool) (hr : declsOk U.length (κU U) D = r) (va mv : Value) (w : World) {lo : Nat} (h : HasD lo w va D) (hM : MapU w mv U) :
  Calls Tryz.prog 159 #[va, mv] w fun e w' => e = .returned (.tuple #[shv (shpR r (κU U) (hd0 D)), .bool r]) ∧ Below w.heap.size w w' := by
 have HSH : Hid (∀ (d : List Int × Int) (r : Bool) (va : Value) (W : World), I64 d.2 → (∀ y ∈ d.1, I64 y) → okD U.length d = r → Below w.heap.size w W → Has W va (ivs d.1) →
   Calls Tryz.prog 183 #[.agg #[va, .int .i64 d.2], mv] W fun e w' => e = .returned (.tuple #[shv (shpR r (κU U) d), .bool r]) ∧ Below W.heap.size W w') :=
  Lib.hid (fun d r va W h1 h2 hr hW hH => shapeOf_any U hU d.1 d.2 h1 h2 r hr va mv W hH (hM.below hW))
 obtain ⟨n, hn⟩ : ∃ n, n = D.length := ⟨_, rfl⟩
 obtain ⟨A, ca, rfl, h'⟩ := HasR.shape h hn.symm
 have hln := h'.len.2.1
 have hcap := h'.len.2.2
 have HH := Lib.hid h'
 have HN := Lib.hid hn
 clear h h' hn hM
 by_cases hlo : n < 1
 ·have HR : Hid (r = false) := Lib.hid (by rw [← hr, declsOk]; have := HN.out; simp; omega)
  clear hr
  go_enter Tryz.func159, Tryz.ntmps159
  go_wp2
  refine bodyPost_ret (v := .tuple #[shv zsh, .bool false]) (by simp [results, Tryz.results159, go_sem, shv, zsh]) rfl ⟨by rw [HR.out]; rfl, ?_⟩
  repeat (first | exact Below.refl _ _ | refine Below.setCell ?_ (by first | (simp; done) | (simp; omega)) _ | refine Below.alloc ?_ (by first | (simp; done) | (simp; omega)) _)
 by_cases hhi : 4 < n
 ·have HR : Hid (r = false) := Lib.hid (by rw [← hr, declsOk]; have := HN.out; simp; omega)
  clear hr
  go_enter Tryz.func159, Tryz.ntmps159
  go_wp2
  refine bodyPost_ret (v := .tuple #[shv zsh, .bool false]) (by simp [results, Tryz.results159, go_sem, shv, zsh]) rfl ⟨by rw [HR.out]; rfl, ?_⟩
  repeat (first | exact Below.refl _ _ | refine Below.setCell ?_ (by first | (simp; done) | (simp; omega)) _ | refine Below.alloc ?_ (by first | (simp; done) | (simp; omega)) _)
 obtain ⟨g, o, A2, c2, rfl, _, hg, hc0, hc1, hh, hi1, hi2⟩ := decl_at HH.out (j := 0) (by omega)
 have hd : D.getD 0 default = hd0 D := rfl
 rw [hd] at hc0 hc1 hh hi1 hi2
 rw [show o + 0 * 2 = o by omega] at hc0 hc1
 have HE0 := Lib.hid (And.intro hi1 hi2)
 have HD0 := Lib.hid hh.has
 obtain ⟨m, hm⟩ : ∃ m, m = (hd0 D).1.length := ⟨_, rfl⟩
 rw [← hm] at hc0 HD0
 obtain ⟨x, hx⟩ : ∃ x, x = (hd0 D).2 := ⟨_, rfl⟩
 rw [← hx] at hc1
 have HX := Lib.hid hx
 clear hh hi1 hi2 hd hm hx
 cases hok0 : okD U.length (hd0 D) with
 | false =>
  have HR : Hid (r = false) := Lib.hid (by rw [← hr]; exact declsOk_bad (j := 0) (by have := HN.out; omega) (.inl hok0))
  have HC := Lib.hid (fun va W hW hH => HSH.out (hd0 D) false va W HE0.out.1 HE0.out.2 hok0 hW hH)
  rw [← HX.out] at HC
  clear hok0 hr
  go_enter Tryz.func159, Tryz.ntmps159
  go_wp2_with fail
  refine (HC.out _ _ ((Below.refl _ _).alloc (Nat.le_refl _) _) (HD0.out.below (Nat.le_refl _) ((Below.refl _ _).alloc (Nat.le_refl _) _))).mono ?_
  rintro e w1 ⟨he, hb1⟩
  rw [shpR, if_neg (by simp), zsh, shv_mk] at he
  subst he
  have hbw : Below w.heap.size w w1 := ((Below.refl _ _).alloc (Nat.le_refl _) _).trans (hb1.mono (by simp))
  have k1 : w1.heap[w.heap.size]? = some (.cells #[.int .i64 0, .int .u16 0, .int .u16 0, .int .u16 0, .int .u16 0] 135 (0, 0)) := by rw [hb1.block _ (by simp)]; exact heap_at _ _ _ rfl
  have d0 : w1.cell? ⟨w.heap.size, 0, none⟩ = some (.int .i64 0) := cell_of_row w1 _ 0 _ _ _ k1
  have d1 : w1.cell? ⟨w.heap.size, 1, none⟩ = some (.int .u16 0) := cell_of_row w1 _ 1 _ _ _ k1
  have d2 : w1.cell? ⟨w.heap.size, 2, none⟩ = some (.int .u16 0) := cell_of_row w1 _ 2 _ _ _ k1
  have d3 : w1.cell? ⟨w.heap.size, 3, none⟩ = some (.int .u16 0) := cell_of_row w1 _ 3 _ _ _ k1
  have d4 : w1.cell? ⟨w.heap.size, 4, none⟩ = some (.int .u16 0) := cell_of_row w1 _ 4 _ _ _ k1
  have f0 := frozen_of_row w1 _ 0 _ _ k1
  have f1 := frozen_of_row w1 _ 1 _ _ k1
  have f2 := frozen_of_row w1 _ 2 _ _ k1
  have f3 := frozen_of_row w1 _ 3 _ _ k1
  have f4 := frozen_of_row w1 _ 4 _ _ k1
  have hz : w.heap.size < w1.heap.size := by have := hb1.size; simp at this; omega
  clear hb1 k1
  go_wp2
  refine bodyPost_ret (v := .tuple #[shv zsh, .bool false]) (by simp [results, Tryz.results159, go_sem, shv, zsh, d0, d1, d2, d3, d4, hz]) rfl ⟨by rw [HR.out]; rfl, ?_⟩
  repeat (first | refine Below.setCell ?_ (by first | (simp; done) | (simp; omega)) _ | refine Below.alloc ?_ (by first | (simp; done) | (simp; omega)) _)
  exact hbw
 | true =>
  have HC := Lib.hid (fun va W hW hH => HSH.out (hd0 D) true va W HE0.out.1 HE0.out.2 hok0 hW hH)
  have HOK0 := Lib.hid hok0
  rw [← HX.out] at HC
  obtain ⟨⟨s0, s1, s2, s3, s4⟩, hs⟩ : ∃ s, s = shpR true (κU U) (hd0 D) := ⟨_, rfl⟩
  rw [← hs] at HC
  have HSS : Hid ((s0, s1, s2, s3, s4) = shp (κU U) (hd0 D)) := Lib.hid hs
  obtain ⟨A4, c4, hsl, HT⟩ : ∃ A4 c4, (∀ W, (Instr.sliceAt 111 (.slice (some ⟨g, o, none⟩) n ca) (some (.int .i64 1)) none none).run Tryz.prog W = .ok (.slice A4 (n - 1) c4) W) ∧ Hid (HasD lo w (.slice A4 (n - 1) c4) D.tail) := by
   have hel : Tryz.prog.elem 111 = 123 := by kernel_rfl
   have hsl : Tryz.prog.underlying 111 = some (.slice (Tryz.prog.elem 111)) := by rw [hel]; exact Tryz.underlying111
   obtain ⟨i0, hi, hz0, hz1, hz2⟩ := info_parts sigt.info_decl
   have hcs : Tryz.prog.cellsOf 123 = 2 := by kernel_rfl
   have hrun : ∀ W, (Instr.sliceAt 111 (.slice (some ⟨g, o, none⟩) n ca) (some (.int .i64 1)) none none).run Tryz.prog W = .ok (sliced (some ⟨g, o, none⟩) 1 n ca 2) W := fun W => by
    rw [run_sliceAt_slice W _ _ _ _ _ hsl, run_slice_l W _ _ _ _ hsl .i64 1 (by omega) (by omega), hel, run_sizeOf W hi, hcs]
    rfl
   by_cases h1 : ca = 1
   ·have hn1 : n = 1 := by omega
    refine ⟨some ⟨g, o, none⟩, ca - 1, fun W => ?_, Lib.hid ?_⟩
    ·rw [hrun W, sliced, if_pos h1]
    ·have : D.tail = [] := List.eq_nil_of_length_eq_zero (by rw [List.length_tail]; have := HN.out; omega)
     rw [this, hn1, h1]
     exact HasR.nil _ _ _ (by unfold maxLen; omega) _
   ·refine ⟨some ⟨g, o + 2, none⟩, ca - 1, fun W => ?_, Lib.hid (HasR.tail HH.out (by omega : 1 ≤ n))⟩
    rw [hrun W, sliced, if_neg h1]
    simp [Addr.add]
  clear hok0 hs
  go_enter Tryz.func159, Tryz.ntmps159
  go_wp2_with fail
  refine (HC.out _ _ ((Below.refl _ _).alloc (Nat.le_refl _) _) (HD0.out.below (Nat.le_refl _) ((Below.refl _ _).alloc (Nat.le_refl _) _))).mono ?_
  rintro e w1 ⟨he, hb1⟩
  rw [shv_mk] at he
  subst he
  have hbw : Below w.heap.size w w1 := ((Below.refl _ _).alloc (Nat.le_refl _) _).trans (hb1.mono (by simp))
  have k1 : w1.heap[w.heap.size]? = some (.cells #[.int .i64 0, .int .u16 0, .int .u16 0, .int .u16 0, .int .u16 0] 135 (0, 0)) := by rw [hb1.block _ (by simp)]; exact heap_at _ _ _ rfl
  have K1 := Lib.hid k1
  have hz : w.heap.size < w1.heap.size := by have := hb1.size; simp at this; omega
  clear hb1 k1 hc0 hc1
  go_wp2_with fail
  go_loopw [35] (fun i wr => ∃ k : Nat, k ≤ n - 1 ∧ i = .int .i64 k ∧ Hid (∀ j, j < k + 1 → okD U.length (D.getD j default) = true ∧ kD (κU U) (D.getD j default) = kD (κU U) (hd0 D)) ∧
    Hid (wr.heap[w.heap.size]? = some (.cells #[.int .i64 0, .int .u16 0, .int .u16 0, .int .u16 0, .int .u16 0] 135 (0, 0))) ∧
    Hid (wr.heap[w1.heap.size]? = some (.cells #[.int .i64 (s0 : Int), .int .u16 (s1 : Int), .int .u16 (s2 : Int), .int .u16 (s3 : Int), .int .u16 (s4 : Int)] 135 (0, 0))) ∧ w1.heap.size < wr.heap.size ∧ Below w.heap.size w wr) (fun i _ => n - 1 - (intOf i).toNat)
  case atStart =>
   refine ⟨0, Nat.zero_le _, rfl, Lib.hid (fun j hj => ?_), Lib.hid ?_, Lib.hid ?_, by simp, hbw.alloc (by omega) _⟩
   ·obtain rfl : j = 0 := by omega
    exact ⟨HOK0.out, rfl⟩
   ·rw [Below.heap_alloc _ _ _ (by omega)]; exact K1.out
   ·exact heap_at _ _ _ rfl
  case round =>
   obtain ⟨k, hk, rfl, HALL, HZ, HS, hz1, hbel⟩ := hrel
   by_cases hlt : k < n - 1
   ·obtain ⟨g', o', A3, c3, rfl, _, hg', hc0, hc1, hh, hi1, hi2⟩ := decl_at HT.out hlt
    have htl : D.tail.getD k default = D.getD (k + 1) default := by cases D <;> simp
    rw [htl] at hc0 hc1 hh hi1 hi2
    rw [← hbel.cell (p := ⟨g', o' + k * 2, none⟩) hg'] at hc0
    rw [← hbel.cell (p := ⟨g', o' + k * 2 + 1, none⟩) hg'] at hc1
    have hhr := hh.has.below (Nat.le_refl _) hbel
    have HB1 : Hid (okD U.length (D.getD (k + 1) default) = false ∨ ¬ kD (κU U) (D.getD (k + 1) default) = kD (κU U) (hd0 D) → r = false) := Lib.hid (fun hb => by rw [← hr]; exact declsOk_bad (by have := HN.out; omega) hb)
    have HB2 : Hid (okD U.length (D.getD (k + 1) default) = true → (shp (κU U) (D.getD (k + 1) default) = shp (κU U) (hd0 D) ↔ kD (κU U) (D.getD (k + 1) default) = kD (κU U) (hd0 D))) := Lib.hid (fun hb => shp_iff hb HOK0.out)
    have HB3 : Hid (okD U.length (D.getD (k + 1) default) = true → kD (κU U) (D.getD (k + 1) default) = kD (κU U) (hd0 D) → ∀ j, j < k + 1 + 1 → okD U.length (D.getD j default) = true ∧ kD (κU U) (D.getD j default) = kD (κU U) (hd0 D)) := Lib.hid (fun h1 h2 j hj => by
     by_cases e : j = k + 1
     ·subst e; exact ⟨h1, h2⟩
     ·exact HALL.out j (by omega))
    obtain ⟨⟨l, x2⟩, hd⟩ : ∃ d, d = D.getD (k + 1) default := ⟨_, rfl⟩
    rw [← hd] at hc0 hc1 hhr hi1 hi2 HB1 HB2 HB3
    obtain ⟨m2, hm2⟩ : ∃ m2, m2 = l.length := ⟨_, rfl⟩
    rw [← hm2] at hc0 hhr
    have HHR := Lib.hid hhr
    have HI := Lib.hid (And.intro hi1 hi2)
    clear hh hhr hi1 hi2 hd hm2 htl hr
    cases hok : okD U.length (l, x2) with
    | false =>
     have HR := Lib.hid (HB1.out (.inl hok))
     have HC2 := Lib.hid (fun va W hW hH => HSH.out (l, x2) false va W HI.out.1 HI.out.2 hok hW hH)
     clear hok
     go_wp2_with fail
     refine (HC2.out _ _ (hbel.alloc (by omega) _) (HHR.out.below (Nat.le_refl _) ((Below.refl _ _).alloc (Nat.le_refl _) _))).mono ?_
     rintro e w2 ⟨he, hb2⟩
     rw [shpR, if_neg (by simp), zsh, shv_mk] at he
     subst he
     have hbw2 : Below w.heap.size w w2 := (hbel.alloc (by omega) _).trans (hb2.mono (by simp; omega))
     have k2 : w2.heap[w.heap.size]? = some (.cells #[.int .i64 0, .int .u16 0, .int .u16 0, .int .u16 0, .int .u16 0] 135 (0, 0)) := by rw [hb2.block _ (by simp; omega), Below.heap_alloc _ _ _ (by omega)]; exact HZ.out
     have d0 : w2.cell? ⟨w.heap.size, 0, none⟩ = some (.int .i64 0) := cell_of_row w2 _ 0 _ _ _ k2
     have d1 : w2.cell? ⟨w.heap.size, 1, none⟩ = some (.int .u16 0) := cell_of_row w2 _ 1 _ _ _ k2
     have d2 : w2.cell? ⟨w.heap.size, 2, none⟩ = some (.int .u16 0) := cell_of_row w2 _ 2 _ _ _ k2
     have d3 : w2.cell? ⟨w.heap.size, 3, none⟩ = some (.int .u16 0) := cell_of_row w2 _ 3 _ _ _ k2
     have d4 : w2.cell? ⟨w.heap.size, 4, none⟩ = some (.int .u16 0) := cell_of_row w2 _ 4 _ _ _ k2
     have f0 := frozen_of_row w2 _ 0 _ _ k2
     have f1 := frozen_of_row w2 _ 1 _ _ k2
     have f2 := frozen_of_row w2 _ 2 _ _ k2
     have f3 := frozen_of_row w2 _ 3 _ _ k2
     have f4 := frozen_of_row w2 _ 4 _ _ k2
     have hz2 : w.heap.size < w2.heap.size := by have := hb2.size; simp at this; omega
     clear hb2 k2
     go_wp2
     refine bodyPost_ret (v := .tuple #[shv zsh, .bool false]) (by simp [results, Tryz.results159, go_sem, shv, zsh, d0, d1, d2, d3, d4, hz2]) rfl ⟨by rw [HR.out]; rfl, ?_⟩
     repeat (first | refine Below.setCell ?_ (by first | (simp; done) | (simp; omega)) _ | refine Below.alloc ?_ (by first | (simp; done) | (simp; omega)) _)
     exact hbw2
    | true =>
     have HC2 := Lib.hid (fun va W hW hH => HSH.out (l, x2) true va W HI.out.1 HI.out.2 hok hW hH)
     have HOK := Lib.hid hok
     obtain ⟨⟨t0, t1, t2, t3, t4⟩, hs2⟩ : ∃ s, s = shpR true (κU U) (l, x2) := ⟨_, rfl⟩
     rw [← hs2] at HC2
     have hs3 : (t0, t1, t2, t3, t4) = shp (κU U) (l, x2) := hs2
     clear hok hs2
     cases hq : decide (((t0, t1, t2, t3, t4) : Shp) = (s0, s1, s2, s3, s4)) with
     | false =>
      have hcmp : ∀ W, (binOp .neq 135 (.agg #[.int .i64 (t0 : Int), .int .u16 (t1 : Int), .int .u16 (t2 : Int), .int .u16 (t3 : Int), .int .u16 (t4 : Int)]) (.agg #[.int .i64 (s0 : Int), .int .u16 (s1 : Int), .int .u16 (s2 : Int), .int .u16 (s3 : Int), .int .u16 (s4 : Int)])).run Tryz.prog W = .ok (.bool true) W := fun W => neq_shape _ _ _ hq W
      have HR := Lib.hid (HB1.out (.inr (fun e => by
       have h3 := (HB2.out HOK.out).2 e
       rw [← hs3, ← HSS.out] at h3
       simp [h3] at hq)))
      clear hq hs3
      go_wp2_with fail
      refine (HC2.out _ _ (hbel.alloc (by omega) _) (HHR.out.below (Nat.le_refl _) ((Below.refl _ _).alloc (Nat.le_refl _) _))).mono ?_
      rintro e w2 ⟨he, hb2⟩
      rw [shv_mk] at he
      subst he
      have hbw2 : Below w.heap.size w w2 := (hbel.alloc (by omega) _).trans (hb2.mono (by simp; omega))
      have k2 : w2.heap[w.heap.size]? = some (.cells #[.int .i64 0, .int .u16 0, .int .u16 0, .int .u16 0, .int .u16 0] 135 (0, 0)) := by rw [hb2.block _ (by simp; omega), Below.heap_alloc _ _ _ (by omega)]; exact HZ.out
      have k3 : w2.heap[w1.heap.size]? = some (.cells #[.int .i64 (s0 : Int), .int .u16 (s1 : Int), .int .u16 (s2 : Int), .int .u16 (s3 : Int), .int .u16 (s4 : Int)] 135 (0, 0)) := by rw [hb2.block _ (by simp; omega), Below.heap_alloc _ _ _ (by omega)]; exact HS.out
      have d0 : w2.cell? ⟨w.heap.size, 0, none⟩ = some (.int .i64 0) := cell_of_row w2 _ 0 _ _ _ k2
      have d1 : w2.cell? ⟨w.heap.size, 1, none⟩ = some (.int .u16 0) := cell_of_row w2 _ 1 _ _ _ k2
      have d2 : w2.cell? ⟨w.heap.size, 2, none⟩ = some (.int .u16 0) := cell_of_row w2 _ 2 _ _ _ k2
      have d3 : w2.cell? ⟨w.heap.size, 3, none⟩ = some (.int .u16 0) := cell_of_row w2 _ 3 _ _ _ k2
      have d4 : w2.cell? ⟨w.heap.size, 4, none⟩ = some (.int .u16 0) := cell_of_row w2 _ 4 _ _ _ k2
      have f0 := frozen_of_row w2 _ 0 _ _ k2
      have f1 := frozen_of_row w2 _ 1 _ _ k2
      have f2 := frozen_of_row w2 _ 2 _ _ k2
      have f3 := frozen_of_row w2 _ 3 _ _ k2
      have f4 := frozen_of_row w2 _ 4 _ _ k2
      have u0 : w2.cell? ⟨w1.heap.size, 0, none⟩ = some (.int .i64 (s0 : Int)) := cell_of_row w2 _ 0 _ _ _ k3
      have u1 : w2.cell? ⟨w1.heap.size, 1, none⟩ = some (.int .u16 (s1 : Int)) := cell_of_row w2 _ 1 _ _ _ k3
      have u2 : w2.cell? ⟨w1.heap.size, 2, none⟩ = some (.int .u16 (s2 : Int)) := cell_of_row w2 _ 2 _ _ _ k3
      have u3 : w2.cell? ⟨w1.heap.size, 3, none⟩ = some (.int .u16 (s3 : Int)) := cell_of_row w2 _ 3 _ _ _ k3
      have u4 : w2.cell? ⟨w1.heap.size, 4, none⟩ = some (.int .u16 (s4 : Int)) := cell_of_row w2 _ 4 _ _ _ k3
      have hz2 : w.heap.size < w2.heap.size := by have := hb2.size; simp at this; omega
      have hz3 : w1.heap.size < w2.heap.size := by have := hb2.size; simp at this; omega
      clear hb2 k2 k3
      go_wp2
      refine bodyPost_ret (v := .tuple #[shv zsh, .bool false]) (by simp [results, Tryz.results159, go_sem, shv, zsh, d0, d1, d2, d3, d4, hz2]) rfl ⟨by rw [HR.out]; rfl, ?_⟩
      repeat (first | refine Below.setCell ?_ (by first | (simp; done) | (simp; omega)) _ | refine Below.alloc ?_ (by first | (simp; done) | (simp; omega)) _)
      exact hbw2
     | true =>
      have hcmp : ∀ W, (binOp .neq 135 (.agg #[.int .i64 (t0 : Int), .int .u16 (t1 : Int), .int .u16 (t2 : Int), .int .u16 (t3 : Int), .int .u16 (t4 : Int)]) (.agg #[.int .i64 (s0 : Int), .int .u16 (s1 : Int), .int .u16 (s2 : Int), .int .u16 (s3 : Int), .int .u16 (s4 : Int)])).run Tryz.prog W = .ok (.bool false) W := fun W => neq_shape _ _ _ hq W
      have HN2 := Lib.hid (HB3.out HOK.out ((HB2.out HOK.out).1 (by rw [← hs3, ← HSS.out]; exact of_decide_eq_true hq)))
      clear hq hs3
      go_wp2_with fail
      refine (HC2.out _ _ (hbel.alloc (by omega) _) (HHR.out.below (Nat.le_refl _) ((Below.refl _ _).alloc (Nat.le_refl _) _))).mono ?_
      rintro e w2 ⟨he, hb2⟩
      rw [shv_mk] at he
      subst he
      have hbw2 : Below w.heap.size w w2 := (hbel.alloc (by omega) _).trans (hb2.mono (by simp; omega))
      have k2 : w2.heap[w.heap.size]? = some (.cells #[.int .i64 0, .int .u16 0, .int .u16 0, .int .u16 0, .int .u16 0] 135 (0, 0)) := by rw [hb2.block _ (by simp; omega), Below.heap_alloc _ _ _ (by omega)]; exact HZ.out
      have k3 : w2.heap[w1.heap.size]? = some (.cells #[.int .i64 (s0 : Int), .int .u16 (s1 : Int), .int .u16 (s2 : Int), .int .u16 (s3 : Int), .int .u16 (s4 : Int)] 135 (0, 0)) := by rw [hb2.block _ (by simp; omega), Below.heap_alloc _ _ _ (by omega)]; exact HS.out
      have HK2 := Lib.hid k2
      have HK3 := Lib.hid k3
      have u0 : w2.cell? ⟨w1.heap.size, 0, none⟩ = some (.int .i64 (s0 : Int)) := cell_of_row w2 _ 0 _ _ _ k3
      have u1 : w2.cell? ⟨w1.heap.size, 1, none⟩ = some (.int .u16 (s1 : Int)) := cell_of_row w2 _ 1 _ _ _ k3
      have u2 : w2.cell? ⟨w1.heap.size, 2, none⟩ = some (.int .u16 (s2 : Int)) := cell_of_row w2 _ 2 _ _ _ k3
      have u3 : w2.cell? ⟨w1.heap.size, 3, none⟩ = some (.int .u16 (s3 : Int)) := cell_of_row w2 _ 3 _ _ _ k3
      have u4 : w2.cell? ⟨w1.heap.size, 4, none⟩ = some (.int .u16 (s4 : Int)) := cell_of_row w2 _ 4 _ _ _ k3
      have hz3 : w1.heap.size < w2.heap.size := by have := hb2.size; simp at this; omega
      clear hb2 k2 k3
      go_wp2
      go_roundw
      case rel =>
       refine ⟨k + 1, by omega, by go_num, HN2, Lib.hid ?_, Lib.hid ?_, by simp; omega, hbw2.alloc (by omega) _⟩
       ·rw [Below.heap_alloc _ _ _ (by omega)]; exact HK2.out
       ·rw [Below.heap_alloc _ _ _ (by omega)]; exact HK3.out
      case measure => simp [intOf]; omega
   ·obtain rfl : k = n - 1 := by omega
    have HR : Hid (r = true) := Lib.hid (by rw [← hr]; exact declsOk_good (by have := HN.out; omega) (by have := HN.out; omega) (fun j hj => HALL.out j (by have := HN.out; omega)))
    have d0 : wr.cell? ⟨w.heap.size, 0, none⟩ = some (.int .i64 0) := cell_of_row wr _ 0 _ _ _ HZ.out
    have d1 : wr.cell? ⟨w.heap.size, 1, none⟩ = some (.int .u16 0) := cell_of_row wr _ 1 _ _ _ HZ.out
    have d2 : wr.cell? ⟨w.heap.size, 2, none⟩ = some (.int .u16 0) := cell_of_row wr _ 2 _ _ _ HZ.out
    have d3 : wr.cell? ⟨w.heap.size, 3, none⟩ = some (.int .u16 0) := cell_of_row wr _ 3 _ _ _ HZ.out
    have d4 : wr.cell? ⟨w.heap.size, 4, none⟩ = some (.int .u16 0) := cell_of_row wr _ 4 _ _ _ HZ.out
    have f0 := frozen_of_row wr _ 0 _ _ HZ.out
    have f1 := frozen_of_row wr _ 1 _ _ HZ.out
    have f2 := frozen_of_row wr _ 2 _ _ HZ.out
    have f3 := frozen_of_row wr _ 3 _ _ HZ.out
    have f4 := frozen_of_row wr _ 4 _ _ HZ.out
    have u0 : wr.cell? ⟨w1.heap.size, 0, none⟩ = some (.int .i64 (s0 : Int)) := cell_of_row wr _ 0 _ _ _ HS.out
    have u1 : wr.cell? ⟨w1.heap.size, 1, none⟩ = some (.int .u16 (s1 : Int)) := cell_of_row wr _ 1 _ _ _ HS.out
    have u2 : wr.cell? ⟨w1.heap.size, 2, none⟩ = some (.int .u16 (s2 : Int)) := cell_of_row wr _ 2 _ _ _ HS.out
    have u3 : wr.cell? ⟨w1.heap.size, 3, none⟩ = some (.int .u16 (s3 : Int)) := cell_of_row wr _ 3 _ _ _ HS.out
    have u4 : wr.cell? ⟨w1.heap.size, 4, none⟩ = some (.int .u16 (s4 : Int)) := cell_of_row wr _ 4 _ _ _ HS.out
    have hz2 : w.heap.size < wr.heap.size := by omega
    clear hr
    go_wp2
    refine bodyPost_ret (v := .tuple #[shv (s0, s1, s2, s3, s4), .bool true]) (by simp [results, Tryz.results159, go_sem, shv, d0, d1, d2, d3, d4]) rfl ⟨by rw [HR.out, HSS.out]; rfl, ?_⟩
    repeat (first | refine Below.setCell ?_ (by first | (simp; done) | (simp; omega)) _ | refine Below.alloc ?_ (by first | (simp; done) | (simp; omega)) _)
    exact hbel
end Go.Proofs.YtkkmjaggebjcbaaGreat.sigj
/-
 THE PROGRAM's FUNCTIONS OF SIGNATURES: opNames, opShapes, fitsArguments, fitsUnit.
-/
namespace Go.Proofs.YtkkmjaggebjcbaaGreat.sigk
open Go.ChangeShapes Go.WideShapes Go.ChangeAt Go.RowKit
open mem split strl join subs sortn setm sets sortm sortp sorti sortf rowl sigm sigs sigi sigj

/-- shapes in memory -/
def RS : Reads Shp := fun _ _ cs s => cs = shcs s
theorem RS_steady : Steady RS := ⟨fun h _ => h, fun h _ => h⟩
instance : Inhabited Shp := ⟨zsh⟩
abbrev HasT (w : World) (v : Value) (S : List Shp) : Prop := HasR RS 5 0 w v S
theorem shape_at {w : World} {A : Option Addr} {n c : Nat} {S : List Shp} (h : HasT w (.slice A n c) S) {j : Nat} (hj : j < n) :
  ∃ g o, A = some ⟨g, o, none⟩ ∧ g < w.heap.size ∧ w.cell? ⟨g, o + j * 5, none⟩ = some (.int .i64 ((S.getD j default).1 : Int)) ∧ w.cell? ⟨g, o + j * 5 + 1, none⟩ = some (.int .u16 ((S.getD j default).2.1 : Int)) ∧
   w.cell? ⟨g, o + j * 5 + 2, none⟩ = some (.int .u16 ((S.getD j default).2.2.1 : Int)) ∧ w.cell? ⟨g, o + j * 5 + 3, none⟩ = some (.int .u16 ((S.getD j default).2.2.2.1 : Int)) ∧ w.cell? ⟨g, o + j * 5 + 4, none⟩ = some (.int .u16 ((S.getD j default).2.2.2.2 : Int)) := by
 obtain ⟨g, o, cs, e, _, hg, hc, hr⟩ := h.get hj
 have hr : cs = shcs (S.getD j default) := hr
 subst hr
 exact ⟨g, o, e, hg, hc 0 (by omega), hc 1 (by omega), hc 2 (by omega), hc 3 (by omega), hc 4 (by omega)⟩
theorem flat5 : ∀ (S : List Shp) (j : Nat), j < S.length → ∀ i, i < 5 → (S.flatMap shcs)[j * 5 + i]? = some ((shcs (S.getD j default)).getD i undef)
 | [], _, h, _, _ => by simp at h
 | s :: S, 0, _, i, hi => by
  have hl : (shcs s).length = 5 := rfl
  rw [List.flatMap_cons, Nat.zero_mul, Nat.zero_add, List.getElem?_append_left (by omega)]
  simp [List.getD, List.getElem?_eq_getElem (show i < (shcs s).length by omega)]
 | s :: S, j + 1, h, i, hi => by
  have hl : (shcs s).length = 5 := rfl
  rw [List.flatMap_cons, List.getElem?_append_right (by omega), show (j + 1) * 5 + i - (shcs s).length = j * 5 + i by omega, flat5 S j (by simpa using h) i hi]
  simp
theorem HasT.of_own {w : World} {base n : Nat} {e : TypeId} {v : Value} {S : List Shp} (h : w.ownsRow base e 5 v n (S.flatMap shcs)) (hS : S.length = n) : HasT w v S :=
 (HasR.of_own (R := RS) h hS (fun j hj => ⟨_, flat5 S j (by omega), rfl⟩)).mono RS_steady (Nat.zero_le _)

/-- the axioms in terms of shapes -/
def argsS (a c : Bool) (u : Int) (s : Shp) : Bool := if a || decide (u ≠ 0) then decide (s = (2, s.2.1, s.2.1, 0, s.2.1)) else (!c || decide (s = (2, s.2.1, s.2.1, 0, s.2.2.2.2)))
def unitS (u : Int) (s : Shp) (S : List Shp) : Bool := decide (u = 0) || (decide (0 ≤ u ∧ u ≤ S.length) && decide (S.getD (u.toNat - 1) default = (0, 0, 0, 0, s.2.2.2.2)))
theorem argsS_eq {n : Nat} {κ : Int → Nat} {o : OpM} (h : okD n (hd0 o.decls) = true) : argsS o.ass o.com o.unt (shp κ (hd0 o.decls)) = argsOk κ o := by
 have h1 := (okD_parts h).1
 unfold argsS argsOk shp ar a0 a1 rs
 generalize (hd0 o.decls).2 = x
 generalize (hd0 o.decls).1 = L at h1
 match L, h1 with
 | [], _ => cases o.ass <;> cases o.com <;> by_cases hu : o.unt = 0 <;> simp [hu]
 | [a], _ => cases o.ass <;> cases o.com <;> by_cases hu : o.unt = 0 <;> simp [hu]
 | [a, b], _ => cases o.ass <;> cases o.com <;> by_cases hu : o.unt = 0 <;> simp [hu, pl] <;> (first | done | omega | (rw [Bool.eq_iff_iff]; simp; omega))
 | [a, b, c], _ => cases o.ass <;> cases o.com <;> by_cases hu : o.unt = 0 <;> simp [hu]
 | _ :: _ :: _ :: _ :: _, h => simp at h
def shps (κ : Int → Nat) (O : List OpM) : List Shp := O.map fun o => shp κ (hd0 o.decls)
theorem shps_len (κ : Int → Nat) (O : List OpM) : (shps κ O).length = O.length := by simp [shps]
theorem shps_get (κ : Int → Nat) (O : List OpM) (k : Nat) (h : k < O.length) : (shps κ O).getD k default = shp κ (hd0 (O.getD k default).decls) := by
 simp [shps, List.getD, List.getElem?_eq_getElem h]
theorem unitS_eq {κ : Int → Nat} {O : List OpM} {o : OpM} : unitS o.unt (shp κ (hd0 o.decls)) (shps κ O) = unitOk κ O o := by
 unfold unitS unitOk
 rw [shps_len]
 by_cases h0 : o.unt = 0
 ·simp [h0]
 by_cases h1 : 0 ≤ o.unt ∧ o.unt ≤ O.length
 ·have hk : o.unt.toNat - 1 < O.length := by omega
  rw [shps_get κ O _ hk]
  have e : O.getD (o.unt.toNat - 1) default = unitOf O o := rfl
  rw [e]
  have e2 : decide (shp κ (hd0 (unitOf O o).decls) = (0, 0, 0, 0, (shp κ (hd0 o.decls)).2.2.2.2)) = (decide (ar (unitOf O o) = 0) && decide (κ (rs (unitOf O o)) = κ (rs o))) := by
   rw [← Bool.decide_and, decide_eq_decide]
   simp only [shp, ar, rs, Prod.mk.injEq]
   constructor
   ·rintro ⟨h, _, _, _, h2⟩; exact ⟨h, h2⟩
   ·rintro ⟨h, h2⟩
    exact ⟨h, by rw [pl, if_neg (by omega)], by rw [pl, if_neg (by omega)], by rw [pl, if_neg (by omega)], h2⟩
  rw [e2]
  simp [h0, h1]
 ·simp [h0, h1]
theorem info_str2 : (Tryz.prog.info? 9).map (fun i => (i.zero, i.size, i.bytes)) = some (some (.string .empty), 1, 16) := by kernel_rfl
theorem ssv_append (P Q : List (List UInt8)) : ssv (P ++ Q) = ssv P ++ ssv Q := by simp [ssv]
theorem nms_take_succ (O : List OpM) (k : Nat) (h : k < O.length) : nms (O.take (k + 1)) = nms (O.take k) ++ [(O.getD k default).name] := by
 have e : O.getD k default = O[k] := by simp [List.getD, List.getElem?_eq_getElem h]
 rw [e, List.take_succ_eq_append_getElem h, nms, List.map_append]
 rfl
set_option maxRecDepth 20000 in
/-- impl.opNames -/
theorem opNames_any (O : List OpM) (hO : O.length ≤ 14) (v : Value) (w : World) {lo : Nat} (h : HasO lo w v O) :
  Calls Tryz.prog 120 #[v] w fun e w' => ∃ v', e = .returned v' ∧ Has w' v' (ssv (nms O)) ∧ Below w.heap.size w w' := by
 obtain ⟨n, hn⟩ : ∃ n, n = O.length := ⟨_, rfl⟩
 obtain ⟨A, c, rfl, h⟩ := HasR.shape h hn.symm
 obtain ⟨i0, hi, hz0, hz1, hz2⟩ := info_parts info_str2
 have hl := h.len.2.1
 have HH := Lib.hid h
 have HN := Lib.hid hn
 rw [← hn] at hO
 clear h hn
 go_enter Tryz.func120, Tryz.ntmps120
 go_wp2_with (at_make; refine wpList_make_own _ rfl _ _ 22 rfl w.heap.size 9 i0 _ 1 Tryz.underlying22 hi hz0 hz1 _ _ _ n rfl rfl (by go_num) (by rw [hz2]; omega) (by unfold maxLen; omega) (Nat.le_refl _) ?_)
 intro w1 hown hgrow
 have hb1 : Below w.heap.size w w1 := (Below.refl w.heap.size w).grown hgrow (Nat.le_refl _) (by intro k hk; cases hk)
 clear hgrow
 go_wp2
 go_loopw [3, 11] (fun v i wr => ∃ k : Nat, k ≤ n ∧ i = .int .i64 k ∧ wr.ownsRow w.heap.size 9 1 v k (ssv (nms (O.take k))) ∧ Below w.heap.size w wr) (fun _ i _ => n - (intOf i).toNat)
 case atStart => exact ⟨0, Nat.zero_le _, rfl, hown, hb1⟩
 case round =>
  obtain ⟨k, hk, rfl, hown', hbel⟩ := hrel
  clear hown
  have HO := Lib.hid (own_block hown')
  by_cases hlt : k < n
  ·obtain ⟨g, o, A2, c2, rfl, _, hg, hc0, hc1, hc2, hc3, hc4, hh, _, _⟩ := op_at HH.out hlt
   have kw : ∀ x, w.cell? ⟨g, x, none⟩ = wr.cell? ⟨g, x, none⟩ := fun x => (hbel.cell (p := ⟨g, x, none⟩) hg).symm
   rw [kw] at hc0 hc1 hc2 hc3 hc4
   have HB := Lib.hid (nms_take_succ O k (by have := HN.out; omega))
   obtain ⟨⟨nm, D, a, b, u⟩, hd⟩ : ∃ d, d = O.getD k default := ⟨_, rfl⟩
   rw [← hd] at hc0 hc1 hc2 hc3 hc4 HB
   have HOWN := Lib.hid hown'
   clear hh hd hown' kw
   go_wp2_with (at_builtin; refine wpList_append_own _ rfl _ _ 22 rfl w.heap.size 9 i0 _ 1 16 Tryz.underlying22 hi hz0 hz1 hz2 rfl (by decide) _ _ _ rfl (own_below HOWN.out ?_) ⟨wr.heap.size + 1, 0, none⟩ 1 1 [.string (bstr nm)] rfl rfl ?_ (one_one _ rfl) (by unfold maxLen; omega) (by omega) (by have := hbel.size; simp; omega) ?_)
   ·repeat (first | exact Below.refl _ _ | refine Below.setCell ?_ (by simp) _ | refine Below.alloc ?_ (by simp) _)
   intro v2 w2 hown2 hgrow2 _
   have HB2 : Below w.heap.size w w2 := Below.grown (w := _) (by repeat (first | exact hbel | refine Below.alloc ?_ (by first | exact hbel.size | (have := hbel.size; simp; omega)) _)) hgrow2 (by have := hbel.size; simp; omega) HO.out
   have HOWN2 : w2.ownsRow w.heap.size 9 1 v2 (k + 1) (ssv (nms (O.take (k + 1)))) := by
    rw [HB.out, ssv_append]; exact hown2
   clear hown2 hgrow2 hbel
   go_wp2
   go_roundw
   case rel => exact ⟨k + 1, by omega, by go_num, HOWN2, HB2⟩
   case measure => simp [intOf]; omega
  ·obtain rfl : k = n := by omega
   go_wp2
   go_ret
   refine ⟨_, rfl, ?_, hbel⟩
   have h1 := Has.of_own hown'
   rw [List.take_of_length_le (by have := HN.out; omega)] at h1
   exact h1
theorem shps_take_succ (κ : Int → Nat) (O : List OpM) (k : Nat) (h : k < O.length) : shps κ (O.take (k + 1)) = shps κ (O.take k) ++ [shp κ (hd0 (O.getD k default).decls)] := by
 have e : O.getD k default = O[k] := by simp [List.getD, List.getElem?_eq_getElem h]
 rw [e, List.take_succ_eq_append_getElem h, shps, List.map_append]
 rfl
theorem shcs_one (s : Shp) : ∀ x ∈ shcs s, x.oneCell' = true := by
 intro x hx
 simp [shcs] at hx
 rcases hx with rfl | rfl | rfl | rfl | rfl <;> rfl
theorem five_cells (w : World) (a b c d e : Value) (t : TypeId) : ∀ (j : Nat) (x : Value), [a, b, c, d, e][j]? = some x → (w.alloc (.cells #[a, b, c, d, e] t)).cell? ((⟨w.heap.size, 0, none⟩ : Addr).add j) = some x := by
 intro j x hj
 match j, hj with
 | 0, hj => simp at hj; subst hj; simp [Addr.add]
 | 1, hj => simp at hj; subst hj; simp [Addr.add]
 | 2, hj => simp at hj; subst hj; simp [Addr.add]
 | 3, hj => simp at hj; subst hj; simp [Addr.add]
 | 4, hj => simp at hj; subst hj; simp [Addr.add]
theorem info_shape : (Tryz.prog.info? 135).map (fun i => (i.zero, i.size, i.bytes)) = some (some (.agg #[.int .i64 0, .int .u16 0, .int .u16 0, .int .u16 0, .int .u16 0]), 5, 16) := by kernel_rfl
set_option maxRecDepth 20000 in
set_option maxHeartbeats 1000000 in
/-- impl.opShapes -/
theorem opShapes_any (U : List Nat) (hU : Lim U) (O : List OpM) (hO : O.length ≤ 14) (r : Bool) (hr : (O.all fun o => declsOk U.length (κU U) o.decls) = r) (v mv : Value) (w : World) {lo : Nat} (h : HasO lo w v O) (hM : MapU w mv U) :
  Calls Tryz.prog 121 #[v, mv] w fun e w' => ∃ v', e = .returned (.tuple #[v', .bool r]) ∧ (r = true → HasT w' v' (shps (κU U) O)) ∧ (r = false → v' = .slice none 0 0) ∧ Below w.heap.size w w' := by
 have HCS : Hid (∀ (D : List (List Int × Int)) (r : Bool) (va : Value) (W : World), declsOk U.length (κU U) D = r → Below w.heap.size w W → HasD lo W va D →
   Calls Tryz.prog 159 #[va, mv] W fun e w' => e = .returned (.tuple #[shv (shpR r (κU U) (hd0 D)), .bool r]) ∧ Below W.heap.size W w') :=
  Lib.hid (fun D r va W hr hW hH => commonShape_any U hU D r hr va mv W hH (hM.below hW))
 obtain ⟨n, hn⟩ : ∃ n, n = O.length := ⟨_, rfl⟩
 obtain ⟨A, c, rfl, h⟩ := HasR.shape h hn.symm
 obtain ⟨i0, hi, hz0, hz1, hz2⟩ := info_parts info_shape
 have hl := h.len.2.1
 have HH := Lib.hid h
 have HN := Lib.hid hn
 rw [← hn] at hO
 clear h hn hM
 go_enter Tryz.func121, Tryz.ntmps121
 go_wp2_with (at_make; refine wpList_make_own _ rfl _ _ 128 rfl w.heap.size 135 i0 _ 5 Tryz.underlying128 hi hz0 hz1 _ _ _ n rfl rfl (by go_num) (by rw [hz2]; omega) (by unfold maxLen; omega) (Nat.le_refl _) ?_)
 intro w1 hown hgrow
 have hb1 : Below w.heap.size w w1 := (Below.refl w.heap.size w).grown hgrow (Nat.le_refl _) (by intro k hk; cases hk)
 clear hgrow
 go_wp2
 go_loopw [6, 16] (fun v i wr => ∃ k : Nat, k ≤ n ∧ i = .int .i64 k ∧ Hid (∀ j, j < k → declsOk U.length (κU U) (O.getD j default).decls = true) ∧ wr.ownsRow w.heap.size 135 5 v k ((shps (κU U) (O.take k)).flatMap shcs) ∧ Below w.heap.size w wr) (fun _ i _ => n - (intOf i).toNat)
 case atStart => exact ⟨0, Nat.zero_le _, rfl, Lib.hid (fun j hj => by omega), hown, hb1⟩
 case round =>
  obtain ⟨k, hk, rfl, HALL, hown', hbel⟩ := hrel
  clear hown
  by_cases hlt : k < n
  ·obtain ⟨g, o, A2, c2, rfl, _, hg, hc0, hc1, hc2, hc3, hc4, hh, _, _⟩ := op_at HH.out hlt
   have kw : ∀ x, w.cell? ⟨g, x, none⟩ = wr.cell? ⟨g, x, none⟩ := fun x => (hbel.cell (p := ⟨g, x, none⟩) hg).symm
   rw [kw] at hc0 hc1 hc2 hc3 hc4
   have hh2 := hh.below RD_steady (Nat.le_refl _) hbel
   have HB := Lib.hid (shps_take_succ (κU U) O k (by have := HN.out; omega))
   have HBAD : Hid (declsOk U.length (κU U) (O.getD k default).decls = false → r = false) := Lib.hid (fun hb => by
    rw [← hr, List.all_eq_false]
    have hk' : k < O.length := by have := HN.out; omega
    refine ⟨O[k], List.getElem_mem hk', ?_⟩
    have e : O.getD k default = O[k] := by simp [List.getD, List.getElem?_eq_getElem hk']
    rw [← e, hb]; simp)
   have HGOOD : Hid (declsOk U.length (κU U) (O.getD k default).decls = true → ∀ j, j < k + 1 → declsOk U.length (κU U) (O.getD j default).decls = true) := Lib.hid (fun hb j hj => by
    by_cases e : j = k
    ·subst e; exact hb
    ·exact HALL.out j (by omega))
   obtain ⟨⟨nm, D, a, b, u⟩, hd⟩ : ∃ d, d = O.getD k default := ⟨_, rfl⟩
   rw [← hd] at hc0 hc1 hc2 hc3 hc4 HB HBAD HGOOD hh2
   have HD2 := Lib.hid hh2
   have HOWN := Lib.hid hown'
   clear hh hd hown' kw hh2 hr
   cases hok : declsOk U.length (κU U) D with
   | false =>
    have HR := Lib.hid (HBAD.out hok)
    have HC := Lib.hid (fun va W hW hH => HCS.out D false va W hok hW hH)
    clear hok
    go_wp2_with fail
    refine (HC.out _ _ (hbel.alloc hbel.size _) (HD2.out.below RD_steady (Nat.le_refl _) ((Below.refl _ _).alloc (Nat.le_refl _) _))).mono ?_
    rintro e w2 ⟨he, hb2⟩
    rw [shpR, if_neg (by simp), zsh, shv_mk] at he
    subst he
    have hbw2 : Below w.heap.size w w2 := (hbel.alloc hbel.size _).trans (hb2.mono (by have := hbel.size; simp; omega))
    clear hb2
    go_wp2
    refine bodyPost_ret (v := .tuple #[.slice none 0 0, .bool false]) (by simp [results, Tryz.results121, go_sem]) rfl ?_
    exact ⟨_, by rw [HR.out], fun e => (by rw [HR.out] at e; cases e), fun _ => rfl, hbw2.alloc hbw2.size _⟩
   | true =>
    have HC := Lib.hid (fun va W hW hH => HCS.out D true va W hok hW hH)
    have HG := Lib.hid (HGOOD.out hok)
    obtain ⟨s, hs⟩ : ∃ s, s = shpR true (κU U) (hd0 D) := ⟨_, rfl⟩
    rw [← hs] at HC
    have hs' : s = shp (κU U) (hd0 D) := hs
    have HBS : Hid (shps (κU U) (O.take (k + 1)) = shps (κU U) (O.take k) ++ [s]) := Lib.hid (by rw [hs']; exact HB.out)
    obtain ⟨s0, s1, s2, s3, s4⟩ := s
    clear hok hs hs'
    go_wp2_with fail
    refine (HC.out _ _ (hbel.alloc hbel.size _) (HD2.out.below RD_steady (Nat.le_refl _) ((Below.refl _ _).alloc (Nat.le_refl _) _))).mono ?_
    rintro e w2 ⟨he, hb2⟩
    rw [shv_mk] at he
    subst he
    have hbw2 : Below w.heap.size w w2 := (hbel.alloc hbel.size _).trans (hb2.mono (by have := hbel.size; simp; omega))
    have HOWN1 := Lib.hid (own_below (own_below HOWN.out ((Below.refl _ _).alloc (Nat.le_refl _) _)) hb2)
    have HO := Lib.hid (own_block HOWN1.out)
    clear hb2
    go_wp2_with (at_builtin; refine wpList_append_own _ rfl _ _ 128 rfl w.heap.size 135 i0 _ 5 16 Tryz.underlying128 hi hz0 hz1 hz2 rfl (by decide) _ _ _ rfl (own_below HOWN1.out ?_) ⟨w2.heap.size + 1, 0, none⟩ 1 1 (shcs (s0, s1, s2, s3, s4)) rfl rfl ?_ (shcs_one _) (by unfold maxLen; omega) (by omega) (by have := hbw2.size; simp; omega) ?_)
    ·repeat (first | exact Below.refl _ _ | refine Below.setCell ?_ (by simp) _ | refine Below.alloc ?_ (by simp) _)
    ·intro j y hj
     have := five_cells (w2.alloc (.cells #[.int .i64 (s0 : Int), .int .u16 (s1 : Int), .int .u16 (s2 : Int), .int .u16 (s3 : Int), .int .u16 (s4 : Int)] 135)) _ _ _ _ _ 135 j y hj
     simpa using this
    intro v2 w3 hown2 hgrow2 _
    have HB2 : Below w.heap.size w w3 := Below.grown (w := _) (by repeat (first | exact hbw2 | refine Below.alloc ?_ (by first | exact hbw2.size | (have := hbw2.size; simp; omega)) _)) hgrow2 (by have := hbw2.size; simp; omega) HO.out
    have HOWN2 : w3.ownsRow w.heap.size 135 5 v2 (k + 1) ((shps (κU U) (O.take (k + 1))).flatMap shcs) := by
     rw [HBS.out, List.flatMap_append]; simpa using hown2
    clear hown2 hgrow2 hbel hbw2
    go_wp2
    go_roundw
    case rel => exact ⟨k + 1, by omega, by go_num, HG, HOWN2, HB2⟩
    case measure => simp [intOf]; omega
  ·obtain rfl : k = n := by omega
   have HR : Hid (r = true) := Lib.hid (by
    rw [← hr, List.all_eq_true]
    intro o ho
    obtain ⟨j, hj, rfl⟩ := List.getElem_of_mem ho
    have := HALL.out j (by have := HN.out; omega)
    simpa [List.getD, List.getElem?_eq_getElem hj] using this)
   obtain ⟨A5, c5, rfl, _⟩ := own_slice hown'
   go_wp2
   refine bodyPost_ret (v := .tuple #[.slice A5 k c5, .bool true]) (by simp [results, Tryz.results121, go_sem]) rfl ?_
   refine ⟨_, by rw [HR.out], fun _ => ?_, fun e => (by rw [HR.out] at e; cases e), hbel⟩
   rw [List.take_of_length_le (by have := HN.out; omega)] at hown'
   exact HasT.of_own hown' (by rw [shps_len]; exact HN.out.symm)
end Go.Proofs.YtkkmjaggebjcbaaGreat.sigk
/-
 THE PROGRAM's FUNCTIONS OF SIGNATURES: fitsArguments, fitsUnit, fitAxioms.
-/
namespace Go.Proofs.YtkkmjaggebjcbaaGreat.sigq
open Go.ChangeShapes Go.WideShapes Go.ChangeAt Go.RowKit
open mem split strl join subs sortn setm sets sortm sortp sorti sortf rowl sigm sigs sigi sigj sigk

/-- five cells of a block stay, whatever a call adds -/
theorem keep_five {wr w0 w1 : World} {g o : Nat} {a0 a1 a2 a3 a4 : Value}
  (h : (w0.cell? ⟨g, o, none⟩ = some a0 ∧ w0.cell? ⟨g, o + 1, none⟩ = some a1 ∧ w0.cell? ⟨g, o + 2, none⟩ = some a2 ∧ w0.cell? ⟨g, o + 3, none⟩ = some a3 ∧ w0.cell? ⟨g, o + 4, none⟩ = some a4) ∧ Below wr.heap.size wr w0)
  (hp : g < wr.heap.size) (hb : Below w0.heap.size w0 w1) :
  (w1.cell? ⟨g, o, none⟩ = some a0 ∧ w1.cell? ⟨g, o + 1, none⟩ = some a1 ∧ w1.cell? ⟨g, o + 2, none⟩ = some a2 ∧ w1.cell? ⟨g, o + 3, none⟩ = some a3 ∧ w1.cell? ⟨g, o + 4, none⟩ = some a4) ∧ Below wr.heap.size wr w1 := by
 have hs := h.2.size
 have k : ∀ x, w1.cell? ⟨g, x, none⟩ = w0.cell? ⟨g, x, none⟩ := fun x => hb.cell (p := ⟨g, x, none⟩) (by show g < _; omega)
 rw [k, k, k, k, k]
 exact ⟨h.1, h.2.trans (hb.mono hs)⟩
theorem keep_six {wr w0 w1 : World} {g o g' o' : Nat} {b a0 a1 a2 a3 a4 : Value}
  (h : (w0.cell? ⟨g', o', none⟩ = some b ∧ w0.cell? ⟨g, o, none⟩ = some a0 ∧ w0.cell? ⟨g, o + 1, none⟩ = some a1 ∧ w0.cell? ⟨g, o + 2, none⟩ = some a2 ∧ w0.cell? ⟨g, o + 3, none⟩ = some a3 ∧ w0.cell? ⟨g, o + 4, none⟩ = some a4) ∧ Below wr.heap.size wr w0)
  (hp : g < wr.heap.size ∧ g' < wr.heap.size) (hb : Below w0.heap.size w0 w1) :
  (w1.cell? ⟨g', o', none⟩ = some b ∧ w1.cell? ⟨g, o, none⟩ = some a0 ∧ w1.cell? ⟨g, o + 1, none⟩ = some a1 ∧ w1.cell? ⟨g, o + 2, none⟩ = some a2 ∧ w1.cell? ⟨g, o + 3, none⟩ = some a3 ∧ w1.cell? ⟨g, o + 4, none⟩ = some a4) ∧ Below wr.heap.size wr w1 := by
 have hs := h.2.size
 have k : ∀ x, w1.cell? ⟨g, x, none⟩ = w0.cell? ⟨g, x, none⟩ := fun x => hb.cell (p := ⟨g, x, none⟩) (by show g < _; omega)
 rw [k, k, k, k, k, hb.cell (p := ⟨g', o', none⟩) (by show g' < _; omega)]
 exact ⟨h.1, h.2.trans (hb.mono hs)⟩
set_option maxRecDepth 20000 in
set_option maxHeartbeats 2000000 in
/-- impl.fitsArguments -/
theorem fitsArguments_any (l : List UInt8) (A : Option Addr) (n ca : Nat) (a c : Bool) (u : Int) (s0 s1 s2 s3 s4 : Nat) (r : Bool) (hr : argsS a c u (s0, s1, s2, s3, s4) = r) (w : World) :
  Calls Tryz.prog 160 #[.agg #[.string (bstr l), .slice A n ca, .bool a, .bool c, .int .i64 u], .agg #[.int .i64 (s0 : Int), .int .u16 (s1 : Int), .int .u16 (s2 : Int), .int .u16 (s3 : Int), .int .u16 (s4 : Int)]] w
   fun e w' => e = .returned (.bool r) ∧ Below w.heap.size w w' := by
 have hcmp : ∀ (t : Nat) (q : Bool), decide (((s0, s1, s2, s3, s4) : Shp) = (2, s1, s1, 0, t)) = q → ∀ W, (binOp .eql 135 (.agg #[.int .i64 (s0 : Int), .int .u16 (s1 : Int), .int .u16 (s2 : Int), .int .u16 (s3 : Int), .int .u16 (s4 : Int)]) (.agg #[.int .i64 2, .int .u16 (s1 : Int), .int .u16 (s1 : Int), .int .u16 0, .int .u16 (t : Int)])).run Tryz.prog W = .ok (.bool q) W :=
  fun t q hq W => eql_shape _ (2, s1, s1, 0, t) _ hq W
 have HC := Lib.hid hcmp
 clear hcmp
 have HST : Hid (∀ (a b : Nat) (W : World), Calls Tryz.prog 184 #[.int .u16 (a : Int), .int .u16 (b : Int)] W fun e w' => e = .returned (.agg #[.int .i64 2, .int .u16 (a : Int), .int .u16 (a : Int), .int .u16 0, .int .u16 (b : Int)]) ∧ Below W.heap.size W w') := Lib.hid (fun a b W => shapeOfTwo_any a b W)
 by_cases hau : a = true ∨ u ≠ 0
 ·have HR : Hid (decide (((s0, s1, s2, s3, s4) : Shp) = (2, s1, s1, 0, s1)) = r) := Lib.hid (by
   rw [← hr, argsS]
   rw [if_pos (by rcases hau with h | h <;> simp [h])])
  have hq := HC.out s1 r HR.out
  clear hr
  cases a with
  | true =>
   clear hau
   go_enter Tryz.func160, Tryz.ntmps160
   go_wp2_with fail
   generalize hW : ((w.alloc (.cells #[.string (bstr l), .slice A n ca, .bool true, .bool c, .int .i64 u] 113)).alloc (.cells #[.int .i64 (s0 : Int), .int .u16 (s1 : Int), .int .u16 (s2 : Int), .int .u16 (s3 : Int), .int .u16 (s4 : Int)] 135)) = W2
   have hbw : Below w.heap.size w W2 := by rw [← hW]; exact ((Below.refl _ _).alloc (Nat.le_refl _) _).alloc (by simp) _
   have hz : w.heap.size + 1 < W2.heap.size := by rw [← hW]; simp
   have k1 : W2.heap[w.heap.size + 1]? = some (.cells #[.int .i64 (s0 : Int), .int .u16 (s1 : Int), .int .u16 (s2 : Int), .int .u16 (s3 : Int), .int .u16 (s4 : Int)] 135 (0, 0)) := by rw [← hW]; exact heap_at _ _ _ (by simp)
   have c0 : W2.cell? ⟨w.heap.size + 1, 0, none⟩ = some (.int .i64 (s0 : Int)) := cell_of_row W2 _ 0 _ _ _ k1
   have c1 : W2.cell? ⟨w.heap.size + 1, 1, none⟩ = some (.int .u16 (s1 : Int)) := cell_of_row W2 _ 1 _ _ _ k1
   have c2 : W2.cell? ⟨w.heap.size + 1, 2, none⟩ = some (.int .u16 (s2 : Int)) := cell_of_row W2 _ 2 _ _ _ k1
   have c3 : W2.cell? ⟨w.heap.size + 1, 3, none⟩ = some (.int .u16 (s3 : Int)) := cell_of_row W2 _ 3 _ _ _ k1
   have c4 : W2.cell? ⟨w.heap.size + 1, 4, none⟩ = some (.int .u16 (s4 : Int)) := cell_of_row W2 _ 4 _ _ _ k1
   clear hW k1
   go_region_held3 (fun w' => (w'.cell? ⟨w.heap.size + 1, 0, none⟩ = some (.int .i64 (s0 : Int)) ∧ w'.cell? ⟨w.heap.size + 1, 1, none⟩ = some (.int .u16 (s1 : Int)) ∧ w'.cell? ⟨w.heap.size + 1, 2, none⟩ = some (.int .u16 (s2 : Int)) ∧ w'.cell? ⟨w.heap.size + 1, 3, none⟩ = some (.int .u16 (s3 : Int)) ∧ w'.cell? ⟨w.heap.size + 1, 4, none⟩ = some (.int .u16 (s4 : Int))) ∧ Below W2.heap.size W2 w')
    (first | (refine ⟨⟨?_, ?_, ?_, ?_, ?_⟩, (Below.refl _ _).drew⟩ <;> assumption) | (go_split_ands; exact keep_five (g := w.heap.size + 1) (o := 0) ⟨⟨by assumption, by assumption, by assumption, by assumption, by assumption⟩, by assumption⟩ hz (by assumption)))
    ((go_at_call 184; go_split_ands; refine (HST.out _ _ _).mono ?_; rintro e w3 ⟨rfl, hb3⟩))
   go_wp2
   have hh : Below W2.heap.size W2 w3 := by go_split_ands; assumption
   go_ret
   exact ⟨rfl, hbw.trans (hh.mono hbw.size)⟩
  | false =>
   have hu : (u != 0) = true := by simpa using hau
   clear hau
   go_enter Tryz.func160, Tryz.ntmps160
   go_wp2_with fail
   generalize hW : ((w.alloc (.cells #[.string (bstr l), .slice A n ca, .bool false, .bool c, .int .i64 u] 113)).alloc (.cells #[.int .i64 (s0 : Int), .int .u16 (s1 : Int), .int .u16 (s2 : Int), .int .u16 (s3 : Int), .int .u16 (s4 : Int)] 135)) = W2
   have hbw : Below w.heap.size w W2 := by rw [← hW]; exact ((Below.refl _ _).alloc (Nat.le_refl _) _).alloc (by simp) _
   have hz : w.heap.size + 1 < W2.heap.size := by rw [← hW]; simp
   have k1 : W2.heap[w.heap.size + 1]? = some (.cells #[.int .i64 (s0 : Int), .int .u16 (s1 : Int), .int .u16 (s2 : Int), .int .u16 (s3 : Int), .int .u16 (s4 : Int)] 135 (0, 0)) := by rw [← hW]; exact heap_at _ _ _ (by simp)
   have c0 : W2.cell? ⟨w.heap.size + 1, 0, none⟩ = some (.int .i64 (s0 : Int)) := cell_of_row W2 _ 0 _ _ _ k1
   have c1 : W2.cell? ⟨w.heap.size + 1, 1, none⟩ = some (.int .u16 (s1 : Int)) := cell_of_row W2 _ 1 _ _ _ k1
   have c2 : W2.cell? ⟨w.heap.size + 1, 2, none⟩ = some (.int .u16 (s2 : Int)) := cell_of_row W2 _ 2 _ _ _ k1
   have c3 : W2.cell? ⟨w.heap.size + 1, 3, none⟩ = some (.int .u16 (s3 : Int)) := cell_of_row W2 _ 3 _ _ _ k1
   have c4 : W2.cell? ⟨w.heap.size + 1, 4, none⟩ = some (.int .u16 (s4 : Int)) := cell_of_row W2 _ 4 _ _ _ k1
   clear hW k1
   go_region_held3 (fun w' => (w'.cell? ⟨w.heap.size + 1, 0, none⟩ = some (.int .i64 (s0 : Int)) ∧ w'.cell? ⟨w.heap.size + 1, 1, none⟩ = some (.int .u16 (s1 : Int)) ∧ w'.cell? ⟨w.heap.size + 1, 2, none⟩ = some (.int .u16 (s2 : Int)) ∧ w'.cell? ⟨w.heap.size + 1, 3, none⟩ = some (.int .u16 (s3 : Int)) ∧ w'.cell? ⟨w.heap.size + 1, 4, none⟩ = some (.int .u16 (s4 : Int))) ∧ Below W2.heap.size W2 w')
    (first | (refine ⟨⟨?_, ?_, ?_, ?_, ?_⟩, (Below.refl _ _).drew⟩ <;> assumption) | (go_split_ands; exact keep_five (g := w.heap.size + 1) (o := 0) ⟨⟨by assumption, by assumption, by assumption, by assumption, by assumption⟩, by assumption⟩ hz (by assumption)))
    ((go_at_call 184; go_split_ands; refine (HST.out _ _ _).mono ?_; rintro e w3 ⟨rfl, hb3⟩))
   go_wp2
   have hh : Below W2.heap.size W2 w3 := by go_split_ands; assumption
   go_ret
   exact ⟨rfl, hbw.trans (hh.mono hbw.size)⟩
 ·have ha : a = false := by cases a <;> simp_all
  have hu : u = 0 := by
   by_cases h : u = 0
   ·exact h
   ·exact absurd (Or.inr h) hau
  subst ha hu
  clear hau
  cases c with
  | false =>
   have HR : Hid (r = true) := Lib.hid (by rw [← hr, argsS]; simp)
   clear hr
   go_enter Tryz.func160, Tryz.ntmps160
   go_wp2
   go_quiet (fail)
   go_wp2
   go_ret
   exact ⟨ret_bool HR.out.symm, below_drewN (((Below.refl _ _).alloc (Nat.le_refl _) _).alloc (by simp) _) _⟩
  | true =>
   have HR : Hid (decide (((s0, s1, s2, s3, s4) : Shp) = (2, s1, s1, 0, s4)) = r) := Lib.hid (by rw [← hr, argsS]; simp)
   have hq := HC.out s4 r HR.out
   clear hr
   go_enter Tryz.func160, Tryz.ntmps160
   go_wp2_with fail
   generalize hW : ((w.alloc (.cells #[.string (bstr l), .slice A n ca, .bool false, .bool true, .int .i64 0] 113)).alloc (.cells #[.int .i64 (s0 : Int), .int .u16 (s1 : Int), .int .u16 (s2 : Int), .int .u16 (s3 : Int), .int .u16 (s4 : Int)] 135)) = W2
   have hbw : Below w.heap.size w W2 := by rw [← hW]; exact ((Below.refl _ _).alloc (Nat.le_refl _) _).alloc (by simp) _
   have hz : w.heap.size + 1 < W2.heap.size := by rw [← hW]; simp
   have k1 : W2.heap[w.heap.size + 1]? = some (.cells #[.int .i64 (s0 : Int), .int .u16 (s1 : Int), .int .u16 (s2 : Int), .int .u16 (s3 : Int), .int .u16 (s4 : Int)] 135 (0, 0)) := by rw [← hW]; exact heap_at _ _ _ (by simp)
   have b3 : W2.cell? ⟨w.heap.size, 3, none⟩ = some (.bool true) := by rw [← hW]; simp
   have c0 : W2.cell? ⟨w.heap.size + 1, 0, none⟩ = some (.int .i64 (s0 : Int)) := cell_of_row W2 _ 0 _ _ _ k1
   have c1 : W2.cell? ⟨w.heap.size + 1, 1, none⟩ = some (.int .u16 (s1 : Int)) := cell_of_row W2 _ 1 _ _ _ k1
   have c2 : W2.cell? ⟨w.heap.size + 1, 2, none⟩ = some (.int .u16 (s2 : Int)) := cell_of_row W2 _ 2 _ _ _ k1
   have c3 : W2.cell? ⟨w.heap.size + 1, 3, none⟩ = some (.int .u16 (s3 : Int)) := cell_of_row W2 _ 3 _ _ _ k1
   have c4 : W2.cell? ⟨w.heap.size + 1, 4, none⟩ = some (.int .u16 (s4 : Int)) := cell_of_row W2 _ 4 _ _ _ k1
   clear hW k1
   go_region_held3 (fun w' => (w'.cell? ⟨w.heap.size, 3, none⟩ = some (.bool true) ∧ w'.cell? ⟨w.heap.size + 1, 0, none⟩ = some (.int .i64 (s0 : Int)) ∧ w'.cell? ⟨w.heap.size + 1, 1, none⟩ = some (.int .u16 (s1 : Int)) ∧ w'.cell? ⟨w.heap.size + 1, 2, none⟩ = some (.int .u16 (s2 : Int)) ∧ w'.cell? ⟨w.heap.size + 1, 3, none⟩ = some (.int .u16 (s3 : Int)) ∧ w'.cell? ⟨w.heap.size + 1, 4, none⟩ = some (.int .u16 (s4 : Int))) ∧ Below W2.heap.size W2 w')
    (first | (refine ⟨⟨?_, ?_, ?_, ?_, ?_, ?_⟩, (Below.refl _ _).drew⟩ <;> assumption) | (go_split_ands; exact keep_six (g := w.heap.size + 1) (o := 0) (g' := w.heap.size) ⟨⟨by assumption, by assumption, by assumption, by assumption, by assumption, by assumption⟩, by assumption⟩ ⟨hz, by omega⟩ (by assumption)))
    ((go_at_call 184; go_split_ands; refine (HST.out _ _ _).mono ?_; rintro e w3 ⟨rfl, hb3⟩))
   go_wp2
   have hh : Below W2.heap.size W2 w3 := by go_split_ands; assumption
   go_ret
   exact ⟨rfl, hbw.trans (hh.mono hbw.size)⟩
set_option maxRecDepth 20000 in
set_option maxHeartbeats 2000000 in
/-- impl.fitsUnit -/
theorem fitsUnit_any (l : List UInt8) (A : Option Addr) (n ca : Nat) (a c : Bool) (u : Int) (hu : I64 u) (s0 s1 s2 s3 s4 : Nat) (S : List Shp) (r : Bool) (hr : unitS u (s0, s1, s2, s3, s4) S = r) (vT : Value) (w : World) (h : HasT w vT S) :
  Calls Tryz.prog 161 #[.agg #[.string (bstr l), .slice A n ca, .bool a, .bool c, .int .i64 u], .agg #[.int .i64 (s0 : Int), .int .u16 (s1 : Int), .int .u16 (s2 : Int), .int .u16 (s3 : Int), .int .u16 (s4 : Int)], vT] w
   fun e w' => e = .returned (.bool r) ∧ Below w.heap.size w w' := by
 obtain ⟨m, hm⟩ : ∃ m, m = S.length := ⟨_, rfl⟩
 obtain ⟨B, cb, rfl, h⟩ := HasR.shape h hm.symm
 have hl := h.len.2.1
 obtain ⟨hu1, hu2⟩ := hu
 by_cases h0 : u = 0
 ·have HR : Hid (r = true) := Lib.hid (by rw [← hr, unitS]; simp [h0])
  clear hr h hm
  subst h0
  go_enter Tryz.func161, Tryz.ntmps161
  go_wp2
  go_ret
  exact ⟨ret_bool HR.out.symm, ((Below.refl _ _).alloc (Nat.le_refl _) _).alloc (by simp) _⟩
 have h0' : (u == 0) = false := by simpa using h0
 by_cases hneg : u < 0
 ·have HR : Hid (r = false) := Lib.hid (by rw [← hr, unitS]; simp [h0]; omega)
  clear hr h hm
  go_enter Tryz.func161, Tryz.ntmps161
  go_wp2
  go_ret
  exact ⟨ret_bool HR.out.symm, ((Below.refl _ _).alloc (Nat.le_refl _) _).alloc (by simp) _⟩
 by_cases hbig : (m : Int) < u
 ·have HR : Hid (r = false) := Lib.hid (by rw [← hr, unitS]; simp [h0]; omega)
  clear hr h hm
  go_enter Tryz.func161, Tryz.ntmps161
  go_wp2
  go_ret
  exact ⟨ret_bool HR.out.symm, ((Below.refl _ _).alloc (Nat.le_refl _) _).alloc (by simp) _⟩
 obtain ⟨k, rfl⟩ : ∃ k : Nat, u = (k : Int) + 1 := ⟨(u - 1).toNat, by omega⟩
 have hk : k < m := by omega
 have HR : Hid (decide (S.getD k default = (0, 0, 0, 0, s4)) = r) := Lib.hid (by
  rw [← hr, unitS]
  have e : ((k : Int) + 1).toNat - 1 = k := by omega
  rw [e]
  simp [h0]
  intro _
  omega)
 obtain ⟨g, o, rfl, hg, c0, c1, c2, c3, c4⟩ := shape_at h hk
 obtain ⟨⟨t0, t1, t2, t3, t4⟩, ht⟩ : ∃ s, s = S.getD k default := ⟨_, rfl⟩
 rw [← ht] at HR c0 c1 c2 c3 c4
 have hcmp : ∀ W, (binOp .eql 135 (.agg #[.int .i64 (t0 : Int), .int .u16 (t1 : Int), .int .u16 (t2 : Int), .int .u16 (t3 : Int), .int .u16 (t4 : Int)]) (.agg #[.int .i64 0, .int .u16 0, .int .u16 0, .int .u16 0, .int .u16 (s4 : Int)])).run Tryz.prog W = .ok (.bool r) W :=
  fun W => eql_shape (t0, t1, t2, t3, t4) (0, 0, 0, 0, s4) _ HR.out W
 clear hr h hm ht HR
 go_enter Tryz.func161, Tryz.ntmps161
 go_wp2
 go_quiet (fail)
 go_wp2
 go_ret
 exact ⟨rfl, below_drewN (((Below.refl _ _).alloc (Nat.le_refl _) _).alloc (by simp) _) _⟩
end Go.Proofs.YtkkmjaggebjcbaaGreat.sigq
/-
 CONTRACTS OF THE LAWS' OWN FUNCTIONS ON DECLARATIONS, OPERATORS AND SIGNATURES: eq.., at equal values.
-/
namespace Go.Proofs.YtkkmjaggebjcbaaGreat.sige
open Go.ChangeShapes Go.WideShapes Go.ChangeAt Go.RowKit
open mem split strl join subs setm sortp sorti rowl sigm sigs

/-- laws.eqDecl, at equal declarations -/
theorem eqDecl_same (L : List Int) (x : Int) (va vb : Value) (w : World) (ha : Has w va (ivs L)) (hb : Has w vb (ivs L)) :
  Calls Tryz.prog 169 #[.agg #[va, .int .i64 x], .agg #[vb, .int .i64 x]] w fun e w' => e = .returned (.bool true) ∧ Below w.heap.size w w' := by
 have HE := Lib.hid (fun W hW => intl.eq_same L va vb W (ha.below (Nat.le_refl _) hW) (hb.below (Nat.le_refl _) hW))
 obtain ⟨A, ca, rfl, _⟩ := ha.shape (ivs_len L)
 obtain ⟨B, cb, rfl, _⟩ := hb.shape (ivs_len L)
 clear ha hb
 go_enter Tryz.func169, Tryz.ntmps169
 go_wp2_with fail
 refine (HE.out _ (((Below.refl _ _).alloc (Nat.le_refl _) _).alloc (by simp) _)).mono ?_
 rintro e w1 ⟨rfl, hb1⟩
 have hbw : Below w.heap.size w w1 := (((Below.refl _ _).alloc (Nat.le_refl _) _).alloc (by simp) _).trans (hb1.mono (by simp; omega))
 have hc1 : w1.cell? ⟨w.heap.size, 1, none⟩ = some (.int .i64 x) := by rw [hb1.cell (p := ⟨w.heap.size, 1, none⟩) (by simp; omega)]; simp
 have hc2 : w1.cell? ⟨w.heap.size + 1, 1, none⟩ = some (.int .i64 x) := by rw [hb1.cell (p := ⟨w.heap.size + 1, 1, none⟩) (by simp)]; simp
 clear hb1
 go_wp2
 go_ret
 exact ⟨rfl, hbw⟩
/-- laws.eqDeclS, at equal declarations -/
theorem eqDeclS_same (D : List (List Int × Int)) (va vb : Value) (w : World) {lo lo' : Nat} (ha : HasD lo w va D) (hb : HasD lo' w vb D) :
  Calls Tryz.prog 138 #[va, vb] w fun e w' => e = .returned (.bool true) ∧ Below w.heap.size w w' := by
 obtain ⟨n, hn⟩ : ∃ n, n = D.length := ⟨_, rfl⟩
 obtain ⟨A, ca, rfl, ha⟩ := HasR.shape ha hn.symm
 obtain ⟨B, cb, rfl, hb⟩ := HasR.shape hb hn.symm
 have hla := ha.len.2.1
 have HA := Lib.hid ha
 have HB := Lib.hid hb
 clear ha hb hn
 go_enter Tryz.func138, Tryz.ntmps138
 go_wp2
 go_loopw [5] (fun i wr => ∃ k : Nat, k ≤ n ∧ i = .int .i64 k ∧ Below w.heap.size w wr) (fun i _ => n - (intOf i).toNat)
 case atStart => exact ⟨0, Nat.zero_le _, rfl, Below.refl _ _⟩
 case round =>
  obtain ⟨k, hk, rfl, hbel⟩ := hrel
  by_cases hlt : k < n
  ·obtain ⟨ga, oa, A2, a2, rfl, _, hga, hca, hca2, hha, _, _⟩ := decl_at HA.out hlt
   obtain ⟨gb, ob, B2, b2, rfl, _, hgb, hcb, hcb2, hhb, _, _⟩ := decl_at HB.out hlt
   rw [← hbel.cell (p := ⟨ga, oa + k * 2, none⟩) hga] at hca
   rw [← hbel.cell (p := ⟨ga, oa + k * 2 + 1, none⟩) hga] at hca2
   rw [← hbel.cell (p := ⟨gb, ob + k * 2, none⟩) hgb] at hcb
   rw [← hbel.cell (p := ⟨gb, ob + k * 2 + 1, none⟩) hgb] at hcb2
   have hga2 : ga < wr.heap.size := Nat.lt_of_lt_of_le hga hbel.size
   have hgb2 : gb < wr.heap.size := Nat.lt_of_lt_of_le hgb hbel.size
   have hh1 := hha.has.below (Nat.le_refl _) hbel
   have hh2 := hhb.has.below (Nat.le_refl _) hbel
   obtain ⟨⟨l, x⟩, hd⟩ : ∃ d, d = D.getD k default := ⟨_, rfl⟩
   rw [← hd] at hca hca2 hcb hcb2 hh1 hh2
   obtain ⟨m, hm⟩ : ∃ m, m = l.length := ⟨_, rfl⟩
   rw [← hm] at hca hcb hh1 hh2
   have HE := Lib.hid (fun W hW => eqDecl_same l x _ _ W (hh1.below (Nat.le_refl _) hW) (hh2.below (Nat.le_refl _) hW))
   clear hh1 hh2 hha hhb hd hm
   go_wp2_with fail
   go_region_held3 (fun w' => (w'.cell? ⟨ga, oa + k * 2, none⟩ = some (.slice A2 m a2) ∧ w'.cell? ⟨ga, oa + k * 2 + 1, none⟩ = some (.int .i64 x) ∧ w'.cell? ⟨gb, ob + k * 2, none⟩ = some (.slice B2 m b2) ∧ w'.cell? ⟨gb, ob + k * 2 + 1, none⟩ = some (.int .i64 x)) ∧ Below wr.heap.size wr w')
    (first | (refine ⟨⟨?_, ?_, ?_, ?_⟩, (Below.refl _ _).drew⟩ <;> assumption) | (go_split_ands; exact keep_four (p := ⟨ga, oa + k * 2, none⟩) (q := ⟨ga, oa + k * 2 + 1, none⟩) (r := ⟨gb, ob + k * 2, none⟩) (s := ⟨gb, ob + k * 2 + 1, none⟩) ⟨⟨by assumption, by assumption, by assumption, by assumption⟩, by assumption⟩ ⟨hga2, hga2, hgb2, hgb2⟩ (by assumption)))
    ((go_at_call 169; go_split_ands; refine (HE.out _ (by assumption)).mono ?_; rintro e w1 ⟨rfl, hb1⟩))
   go_wp2
   go_roundw
   case rel =>
    have hh : (w1.cell? ⟨ga, oa + k * 2, none⟩ = some (.slice A2 m a2) ∧ w1.cell? ⟨ga, oa + k * 2 + 1, none⟩ = some (.int .i64 x) ∧ w1.cell? ⟨gb, ob + k * 2, none⟩ = some (.slice B2 m b2) ∧ w1.cell? ⟨gb, ob + k * 2 + 1, none⟩ = some (.int .i64 x)) ∧ Below wr.heap.size wr w1 := by assumption
    exact ⟨k + 1, by omega, by go_num, hbel.trans (hh.2.mono hbel.size)⟩
   case measure => simp [intOf]; omega
  ·obtain rfl : k = n := by omega
   go_wp2
   go_ret
   exact ⟨rfl, hbel⟩
/-- laws.eqOp, at equal operators -/
theorem eqOp_same (l : List UInt8) (D : List (List Int × Int)) (a b : Bool) (u : Int) (va vb : Value) (w : World) {lo lo' : Nat} (ha : HasD lo w va D) (hb : HasD lo' w vb D) :
  Calls Tryz.prog 92 #[.agg #[.string (bstr l), va, .bool a, .bool b, .int .i64 u], .agg #[.string (bstr l), vb, .bool a, .bool b, .int .i64 u]] w fun e w' => e = .returned (.bool true) ∧ Below w.heap.size w w' := by
 have HE := Lib.hid (fun W hW => eqDeclS_same D va vb W (ha.below RD_steady (Nat.le_refl _) hW) (hb.below RD_steady (Nat.le_refl _) hW))
 obtain ⟨A, ca, rfl, _⟩ := HasR.shape ha rfl
 obtain ⟨B, cb, rfl, _⟩ := HasR.shape hb rfl
 obtain ⟨n, hn⟩ : ∃ n, n = D.length := ⟨_, rfl⟩
 rw [← hn] at HE ⊢
 clear ha hb hn
 go_enter Tryz.func92, Tryz.ntmps92
 go_wp2_with fail
 refine (HE.out _ (((Below.refl _ _).alloc (Nat.le_refl _) _).alloc (by simp) _)).mono ?_
 rintro e w1 ⟨rfl, hb1⟩
 have hbw : Below w.heap.size w w1 := (((Below.refl _ _).alloc (Nat.le_refl _) _).alloc (by simp) _).trans (hb1.mono (by simp; omega))
 have a2 : w1.cell? ⟨w.heap.size, 2, none⟩ = some (.bool a) := by rw [hb1.cell (p := ⟨w.heap.size, 2, none⟩) (by simp; omega)]; simp
 have b2 : w1.cell? ⟨w.heap.size + 1, 2, none⟩ = some (.bool a) := by rw [hb1.cell (p := ⟨w.heap.size + 1, 2, none⟩) (by simp)]; simp
 have a3 : w1.cell? ⟨w.heap.size, 3, none⟩ = some (.bool b) := by rw [hb1.cell (p := ⟨w.heap.size, 3, none⟩) (by simp; omega)]; simp
 have b3 : w1.cell? ⟨w.heap.size + 1, 3, none⟩ = some (.bool b) := by rw [hb1.cell (p := ⟨w.heap.size + 1, 3, none⟩) (by simp)]; simp
 have a4 : w1.cell? ⟨w.heap.size, 4, none⟩ = some (.int .i64 u) := by rw [hb1.cell (p := ⟨w.heap.size, 4, none⟩) (by simp; omega)]; simp
 have b4 : w1.cell? ⟨w.heap.size + 1, 4, none⟩ = some (.int .i64 u) := by rw [hb1.cell (p := ⟨w.heap.size + 1, 4, none⟩) (by simp)]; simp
 clear hb1
 go_wp2
 go_ret
 exact ⟨rfl, hbw⟩
/-- ten cells stay, whatever a call adds -/
theorem keep_ten {wr w0 w1 : World} {g g' o o' : Nat} {a0 a1 a2 a3 a4 b0 b1 b2 b3 b4 : Value}
  (h : (w0.cell? ⟨g, o, none⟩ = some a0 ∧ w0.cell? ⟨g, o + 1, none⟩ = some a1 ∧ w0.cell? ⟨g, o + 2, none⟩ = some a2 ∧ w0.cell? ⟨g, o + 3, none⟩ = some a3 ∧ w0.cell? ⟨g, o + 4, none⟩ = some a4 ∧
   w0.cell? ⟨g', o', none⟩ = some b0 ∧ w0.cell? ⟨g', o' + 1, none⟩ = some b1 ∧ w0.cell? ⟨g', o' + 2, none⟩ = some b2 ∧ w0.cell? ⟨g', o' + 3, none⟩ = some b3 ∧ w0.cell? ⟨g', o' + 4, none⟩ = some b4) ∧ Below wr.heap.size wr w0)
  (hp : g < wr.heap.size ∧ g' < wr.heap.size) (hb : Below w0.heap.size w0 w1) :
  (w1.cell? ⟨g, o, none⟩ = some a0 ∧ w1.cell? ⟨g, o + 1, none⟩ = some a1 ∧ w1.cell? ⟨g, o + 2, none⟩ = some a2 ∧ w1.cell? ⟨g, o + 3, none⟩ = some a3 ∧ w1.cell? ⟨g, o + 4, none⟩ = some a4 ∧
   w1.cell? ⟨g', o', none⟩ = some b0 ∧ w1.cell? ⟨g', o' + 1, none⟩ = some b1 ∧ w1.cell? ⟨g', o' + 2, none⟩ = some b2 ∧ w1.cell? ⟨g', o' + 3, none⟩ = some b3 ∧ w1.cell? ⟨g', o' + 4, none⟩ = some b4) ∧ Below wr.heap.size wr w1 := by
 have hs := h.2.size
 have k : ∀ x, w1.cell? ⟨g, x, none⟩ = w0.cell? ⟨g, x, none⟩ := fun x => hb.cell (p := ⟨g, x, none⟩) (by show g < _; omega)
 have k' : ∀ x, w1.cell? ⟨g', x, none⟩ = w0.cell? ⟨g', x, none⟩ := fun x => hb.cell (p := ⟨g', x, none⟩) (by show g' < _; omega)
 rw [k, k, k, k, k, k', k', k', k', k']
 exact ⟨h.1, h.2.trans (hb.mono hs)⟩
/-- laws.eqOpS, at equal operators -/
theorem eqOpS_same (O : List OpM) (va vb : Value) (w : World) {lo lo' : Nat} (ha : HasO lo w va O) (hb : HasO lo' w vb O) :
  Calls Tryz.prog 43 #[va, vb] w fun e w' => e = .returned (.bool true) ∧ Below w.heap.size w w' := by
 obtain ⟨n, hn⟩ : ∃ n, n = O.length := ⟨_, rfl⟩
 obtain ⟨A, ca, rfl, ha⟩ := HasR.shape ha hn.symm
 obtain ⟨B, cb, rfl, hb⟩ := HasR.shape hb hn.symm
 have hla := ha.len.2.1
 have HA := Lib.hid ha
 have HB := Lib.hid hb
 clear ha hb hn
 go_enter Tryz.func43, Tryz.ntmps43
 go_wp2
 go_loopw [5] (fun i wr => ∃ k : Nat, k ≤ n ∧ i = .int .i64 k ∧ Below w.heap.size w wr) (fun i _ => n - (intOf i).toNat)
 case atStart => exact ⟨0, Nat.zero_le _, rfl, Below.refl _ _⟩
 case round =>
  obtain ⟨k, hk, rfl, hbel⟩ := hrel
  by_cases hlt : k < n
  ·obtain ⟨ga, oa, A2, a2, rfl, _, hga, ha0, ha1, ha2, ha3, ha4, hha, _, _⟩ := op_at HA.out hlt
   obtain ⟨gb, ob, B2, b2, rfl, _, hgb, hb0, hb1, hb2, hb3, hb4, hhb, _, _⟩ := op_at HB.out hlt
   have ka : ∀ x, w.cell? ⟨ga, x, none⟩ = wr.cell? ⟨ga, x, none⟩ := fun x => (hbel.cell (p := ⟨ga, x, none⟩) hga).symm
   have kb : ∀ x, w.cell? ⟨gb, x, none⟩ = wr.cell? ⟨gb, x, none⟩ := fun x => (hbel.cell (p := ⟨gb, x, none⟩) hgb).symm
   rw [ka] at ha0 ha1 ha2 ha3 ha4
   rw [kb] at hb0 hb1 hb2 hb3 hb4
   have hga2 : ga < wr.heap.size := Nat.lt_of_lt_of_le hga hbel.size
   have hgb2 : gb < wr.heap.size := Nat.lt_of_lt_of_le hgb hbel.size
   have hh1 := hha.below RD_steady (Nat.le_refl _) hbel
   have hh2 := hhb.below RD_steady (Nat.le_refl _) hbel
   obtain ⟨⟨nm, D, p, q, u⟩, hd⟩ : ∃ d, d = O.getD k default := ⟨_, rfl⟩
   rw [← hd] at ha0 ha1 ha2 ha3 ha4 hb0 hb1 hb2 hb3 hb4 hh1 hh2
   obtain ⟨m, hm⟩ : ∃ m, m = D.length := ⟨_, rfl⟩
   simp only [← hm] at ha0 ha1 ha2 ha3 ha4 hb0 hb1 hb2 hb3 hb4 hh1 hh2
   have HE := Lib.hid (fun W hW => eqOp_same nm D p q u _ _ W (hh1.below RD_steady (Nat.le_refl _) hW) (hh2.below RD_steady (Nat.le_refl _) hW))
   clear hh1 hh2 hha hhb hd hm ka kb
   go_wp2_with fail
   go_region_held3 (fun w' => (w'.cell? ⟨ga, oa + k * 5, none⟩ = some (.string (bstr nm)) ∧ w'.cell? ⟨ga, oa + k * 5 + 1, none⟩ = some (.slice A2 m a2) ∧ w'.cell? ⟨ga, oa + k * 5 + 2, none⟩ = some (.bool p) ∧ w'.cell? ⟨ga, oa + k * 5 + 3, none⟩ = some (.bool q) ∧ w'.cell? ⟨ga, oa + k * 5 + 4, none⟩ = some (.int .i64 u) ∧
     w'.cell? ⟨gb, ob + k * 5, none⟩ = some (.string (bstr nm)) ∧ w'.cell? ⟨gb, ob + k * 5 + 1, none⟩ = some (.slice B2 m b2) ∧ w'.cell? ⟨gb, ob + k * 5 + 2, none⟩ = some (.bool p) ∧ w'.cell? ⟨gb, ob + k * 5 + 3, none⟩ = some (.bool q) ∧ w'.cell? ⟨gb, ob + k * 5 + 4, none⟩ = some (.int .i64 u)) ∧ Below wr.heap.size wr w')
    (first | (refine ⟨⟨?_, ?_, ?_, ?_, ?_, ?_, ?_, ?_, ?_, ?_⟩, (Below.refl _ _).drew⟩ <;> assumption) | (go_split_ands; exact keep_ten (g := ga) (g' := gb) ⟨⟨by assumption, by assumption, by assumption, by assumption, by assumption, by assumption, by assumption, by assumption, by assumption, by assumption⟩, by assumption⟩ ⟨hga2, hgb2⟩ (by assumption)))
    ((go_at_call 92; go_split_ands; refine (HE.out _ (by assumption)).mono ?_; rintro e w1 ⟨rfl, hb1⟩))
   go_wp2
   go_roundw
   case rel =>
    have hh : Below wr.heap.size wr w1 := by go_split_ands; assumption
    exact ⟨k + 1, by omega, by go_num, hbel.trans (hh.mono hbel.size)⟩
   case measure => simp [intOf]; omega
  ·obtain rfl : k = n := by omega
   go_wp2
   go_ret
   exact ⟨rfl, hbel⟩
/-- laws.eqSignature, at equal signatures -/
theorem eqSignature_same (P : List (List UInt8)) (Q : List (Int × Int)) (O : List OpM) (va vb vc va' vb' vc' : Value) (w : World) (h : HasG w va vb vc P Q O) (h' : HasG w va' vb' vc' P Q O) :
  Calls Tryz.prog 13 #[.agg #[va, vb, vc], .agg #[va', vb', vc']] w fun e w' => e = .returned (.bool true) ∧ Below w.heap.size w w' := by
 have HES := Lib.hid (fun W hW => eqSorts_same P Q va vb va' vb' W (h.below (Nat.le_refl _) hW).s.a (h.below (Nat.le_refl _) hW).s.b (h'.below (Nat.le_refl _) hW).s.a (h'.below (Nat.le_refl _) hW).s.b)
 have HEO := Lib.hid (fun W hW => eqOpS_same O vc vc' W (h.below (Nat.le_refl _) hW).o (h'.below (Nat.le_refl _) hW).o)
 obtain ⟨A, ca, B, cb, C, cc, rfl, rfl, rfl, _, _, _, _⟩ := h.shape
 obtain ⟨A', ca', B', cb', C', cc', rfl, rfl, rfl, _, _, _, _⟩ := h'.shape
 obtain ⟨n, hn⟩ : ∃ n, n = O.length := ⟨_, rfl⟩
 rw [← hn] at HEO ⊢
 clear h h' hn
 go_enter Tryz.func13, Tryz.ntmps13
 go_wp2_with fail
 refine (HES.out _ (((Below.refl _ _).alloc (Nat.le_refl _) _).alloc (by simp) _)).mono ?_
 rintro e w1 ⟨rfl, hb1⟩
 have hbw : Below w.heap.size w w1 := (((Below.refl _ _).alloc (Nat.le_refl _) _).alloc (by simp) _).trans (hb1.mono (by simp; omega))
 have hc1 : w1.cell? ⟨w.heap.size, 2, none⟩ = some (.slice C n cc) := by rw [hb1.cell (p := ⟨w.heap.size, 2, none⟩) (by simp; omega)]; simp
 have hc2 : w1.cell? ⟨w.heap.size + 1, 2, none⟩ = some (.slice C' n cc') := by rw [hb1.cell (p := ⟨w.heap.size + 1, 2, none⟩) (by simp)]; simp
 clear hb1
 go_wp2_with fail
 refine (HEO.out _ hbw).mono ?_
 rintro e w2 ⟨rfl, hb2⟩
 have hbw2 := hbw.trans (hb2.mono hbw.size)
 clear hb2
 go_wp2
 go_ret
 exact ⟨rfl, hbw2⟩
end Go.Proofs.YtkkmjaggebjcbaaGreat.sige
/-
 THE PROGRAM's FUNCTIONS OF SIGNATURES: fitAxioms.
-/
namespace Go.Proofs.YtkkmjaggebjcbaaGreat.sigr
open Go.ChangeShapes Go.WideShapes Go.ChangeAt Go.RowKit
open mem split strl join subs sortn setm sets sortm sortp sorti sortf rowl sigm sigs sigi sigj sigk sigq sige

/-- a world of a class -/
structure BoxC (C : World → Prop) where
 W : World
 h : C W
theorem region_boxC {P : Program} {C : World → Prop} {id : Nat} {Q : Exit → Act → World → Prop} {a : Act} {w : World} {l : List Oper} (hm : P.follows .mixedOrders = true) (hB : Region.lexB .any l.toArray = true) (hC : C w.drew)
  (h : wpQuiet P l.toArray (fun w' => ∃ t : BoxC C, w' = t.W) (fun a' => ∀ w', (∃ t : BoxC C, w' = t.W) → Q .normal a' w') l a) : (Code.region id l.toArray true).wp P Q a w :=
 wp_region_quiet (C := fun w' => ∃ t : BoxC C, w' = t.W) hm hB ⟨⟨_, hC⟩, rfl⟩ (by simpa using h)
/-- ten cells as they were laid -/
def Ten (W2 : World) (g o g' o' : Nat) (a0 a1 a2 a3 a4 b0 b1 b2 b3 b4 : Value) (w : World) : Prop :=
 (w.cell? ⟨g, o, none⟩ = some a0 ∧ w.cell? ⟨g, o + 1, none⟩ = some a1 ∧ w.cell? ⟨g, o + 2, none⟩ = some a2 ∧ w.cell? ⟨g, o + 3, none⟩ = some a3 ∧ w.cell? ⟨g, o + 4, none⟩ = some a4 ∧
   w.cell? ⟨g', o', none⟩ = some b0 ∧ w.cell? ⟨g', o' + 1, none⟩ = some b1 ∧ w.cell? ⟨g', o' + 2, none⟩ = some b2 ∧ w.cell? ⟨g', o' + 3, none⟩ = some b3 ∧ w.cell? ⟨g', o' + 4, none⟩ = some b4) ∧ Below W2.heap.size W2 w
theorem Ten.keep {W2 w0 w1 : World} {g o g' o' : Nat} {a0 a1 a2 a3 a4 b0 b1 b2 b3 b4 : Value} (h : Ten W2 g o g' o' a0 a1 a2 a3 a4 b0 b1 b2 b3 b4 w0) (hp : g < W2.heap.size ∧ g' < W2.heap.size) (hb : Below w0.heap.size w0 w1) : Ten W2 g o g' o' a0 a1 a2 a3 a4 b0 b1 b2 b3 b4 w1 :=
 keep_ten h hp hb
/-- the axioms of the operator k fit -/
def fitK (O : List OpM) (S : List Shp) (k : Nat) : Bool := argsS (O.getD k default).ass (O.getD k default).com (O.getD k default).unt (S.getD k default) && unitS (O.getD k default).unt (S.getD k default) S
def fitB (O : List OpM) (S : List Shp) : Bool := (List.range O.length).all (fitK O S)
theorem fitB_bad {O : List OpM} {S : List Shp} {k : Nat} (hk : k < O.length) (h : fitK O S k = false) : fitB O S = false := by
 rw [fitB, List.all_eq_false]
 exact ⟨k, by simpa using hk, by simp [h]⟩
theorem fitB_good {O : List OpM} {S : List Shp} (h : ∀ k, k < O.length → fitK O S k = true) : fitB O S = true := by
 rw [fitB, List.all_eq_true]
 exact fun k hk => h k (by simpa using hk)
/-- over valid declarations -/
theorem fitB_eq {n : Nat} {κ : Int → Nat} {O : List OpM} (hO : Firsts n O) : fitB O (shps κ O) = O.all (axOk κ O) := by
 have hk : ∀ k, k < O.length → fitK O (shps κ O) k = axOk κ O (O.getD k default) := by
  intro k hk
  have hm : O.getD k default ∈ O := by rw [List.getD_eq_getElem?_getD, List.getElem?_eq_getElem hk]; exact List.getElem_mem hk
  rw [fitK, shps_get κ O k hk, argsS_eq (hO _ hm), unitS_eq, axOk]
 rw [Bool.eq_iff_iff, fitB]
 simp only [List.all_eq_true, List.mem_range]
 constructor
 ·intro h o ho
  obtain ⟨k, hk', rfl⟩ := List.getElem_of_mem ho
  have := h k hk'
  rw [hk k hk'] at this
  simpa [List.getD, List.getElem?_eq_getElem hk'] using this
 ·intro h k hk'
  rw [hk k hk']
  exact h _ (by rw [List.getD_eq_getElem?_getD, List.getElem?_eq_getElem hk']; exact List.getElem_mem hk')
set_option maxRecDepth 20000 in
set_option maxHeartbeats 4000000 in
/-- impl.fitAxioms -/
theorem fitAxioms_any (O : List OpM) (S : List Shp) (hS : S.length = O.length) (r : Bool) (hr : fitB O S = r) (v vT : Value) (w : World) {lo : Nat} (h : HasO lo w v O) (hT : HasT w vT S) :
  Calls Tryz.prog 122 #[v, vT] w fun e w' => e = .returned (.bool r) ∧ Below w.heap.size w w' := by
 obtain ⟨n, hn⟩ : ∃ n, n = O.length := ⟨_, rfl⟩
 obtain ⟨A, c, rfl, h⟩ := HasR.shape h hn.symm
 obtain ⟨B, cb, rfl, hT⟩ := HasR.shape hT (hS.trans hn.symm)
 have hl := h.len.2.1
 have HH := Lib.hid h
 have HT := Lib.hid hT
 have HN := Lib.hid hn
 clear h hn hT
 go_enter Tryz.func122, Tryz.ntmps122
 go_wp2
 go_loopw [9] (fun i wr => ∃ k : Nat, k ≤ n ∧ i = .int .i64 k ∧ Hid (∀ j, j < k → fitK O S j = true) ∧ Below w.heap.size w wr) (fun i _ => n - (intOf i).toNat)
 case atStart => exact ⟨0, Nat.zero_le _, rfl, Lib.hid (fun j hj => by omega), Below.refl _ _⟩
 case round =>
  obtain ⟨k, hk, rfl, HALL, hbel⟩ := hrel
  by_cases hlt : k < n
  ·obtain ⟨g, o, A2, c2, rfl, _, hg, hc0, hc1, hc2, hc3, hc4, hh, hnl, hu64⟩ := op_at HH.out hlt
   obtain ⟨g', o2, rfl, hg', d0, d1, d2, d3, d4⟩ := shape_at HT.out hlt
   have kw : ∀ x, w.cell? ⟨g, x, none⟩ = wr.cell? ⟨g, x, none⟩ := fun x => (hbel.cell (p := ⟨g, x, none⟩) hg).symm
   have kw' : ∀ x, w.cell? ⟨g', x, none⟩ = wr.cell? ⟨g', x, none⟩ := fun x => (hbel.cell (p := ⟨g', x, none⟩) hg').symm
   rw [kw] at hc0 hc1 hc2 hc3 hc4
   rw [kw'] at d0 d1 d2 d3 d4
   have hsz := hbel.size
   have HBAD : Hid (fitK O S k = false → r = false) := Lib.hid (fun hb => by rw [← hr]; exact fitB_bad (by have := HN.out; omega) hb)
   have HGOOD : Hid (fitK O S k = true → ∀ j, j < k + 1 → fitK O S j = true) := Lib.hid (fun hb j hj => by
    by_cases e : j = k
    ·subst e; exact hb
    ·exact HALL.out j (by omega))
   unfold fitK at HBAD HGOOD
   obtain ⟨⟨nm, D, a, b, u⟩, hd⟩ : ∃ d, d = O.getD k default := ⟨_, rfl⟩
   rw [← hd] at hc0 hc1 hc2 hc3 hc4 HBAD HGOOD hu64
   obtain ⟨⟨s0, s1, s2, s3, s4⟩, hs⟩ : ∃ s, s = S.getD k default := ⟨_, rfl⟩
   rw [← hs] at d0 d1 d2 d3 d4 HBAD HGOOD
   obtain ⟨dn, hdn⟩ : ∃ dn, dn = D.length := ⟨_, rfl⟩
   rw [← hdn] at hc1
   clear hh hd kw kw' hr hs hdn hnl
   cases h1 : argsS a b u (s0, s1, s2, s3, s4) with
   | false =>
    have HR := Lib.hid (HBAD.out (by simp [h1]))
    have HFA := Lib.hid (fun W => fitsArguments_any nm A2 dn c2 a b u s0 s1 s2 s3 s4 false h1 W)
    clear h1 HGOOD
    go_wp2_with fail
    generalize hW : wr.alloc (.cells #[.string (bstr nm), .slice A2 dn c2, .bool a, .bool b, .int .i64 u] 113) = W2
    have hbw : Below w.heap.size w W2 := by rw [← hW]; exact hbel.alloc hbel.size _
    have hz1 : wr.heap.size < W2.heap.size := by rw [← hW]; simp
    have hz2 : g' < W2.heap.size := by rw [← hW]; simp; omega
    have k1 : W2.heap[wr.heap.size]? = some (.cells #[.string (bstr nm), .slice A2 dn c2, .bool a, .bool b, .int .i64 u] 113 (0, 0)) := by rw [← hW]; exact heap_at _ _ _ rfl
    have p0 : W2.cell? ⟨wr.heap.size, 0, none⟩ = some (.string (bstr nm)) := cell_of_row W2 _ 0 _ _ _ k1
    have p1 : W2.cell? ⟨wr.heap.size, 1, none⟩ = some (.slice A2 dn c2) := cell_of_row W2 _ 1 _ _ _ k1
    have p2 : W2.cell? ⟨wr.heap.size, 2, none⟩ = some (.bool a) := cell_of_row W2 _ 2 _ _ _ k1
    have p3 : W2.cell? ⟨wr.heap.size, 3, none⟩ = some (.bool b) := cell_of_row W2 _ 3 _ _ _ k1
    have p4 : W2.cell? ⟨wr.heap.size, 4, none⟩ = some (.int .i64 u) := cell_of_row W2 _ 4 _ _ _ k1
    have q0 : W2.cell? ⟨g', o2 + k * 5, none⟩ = some (.int .i64 (s0 : Int)) := by rw [← hW, (Below.cell ((Below.refl wr.heap.size wr).alloc (Nat.le_refl _) _) (p := ⟨g', o2 + k * 5, none⟩) (by show g' < _; omega))]; exact d0
    have q1 : W2.cell? ⟨g', o2 + k * 5 + 1, none⟩ = some (.int .u16 (s1 : Int)) := by rw [← hW, (Below.cell ((Below.refl wr.heap.size wr).alloc (Nat.le_refl _) _) (p := ⟨g', o2 + k * 5 + 1, none⟩) (by show g' < _; omega))]; exact d1
    have q2 : W2.cell? ⟨g', o2 + k * 5 + 2, none⟩ = some (.int .u16 (s2 : Int)) := by rw [← hW, (Below.cell ((Below.refl wr.heap.size wr).alloc (Nat.le_refl _) _) (p := ⟨g', o2 + k * 5 + 2, none⟩) (by show g' < _; omega))]; exact d2
    have q3 : W2.cell? ⟨g', o2 + k * 5 + 3, none⟩ = some (.int .u16 (s3 : Int)) := by rw [← hW, (Below.cell ((Below.refl wr.heap.size wr).alloc (Nat.le_refl _) _) (p := ⟨g', o2 + k * 5 + 3, none⟩) (by show g' < _; omega))]; exact d3
    have q4 : W2.cell? ⟨g', o2 + k * 5 + 4, none⟩ = some (.int .u16 (s4 : Int)) := by rw [← hW, (Below.cell ((Below.refl wr.heap.size wr).alloc (Nat.le_refl _) _) (p := ⟨g', o2 + k * 5 + 4, none⟩) (by show g' < _; omega))]; exact d4
    clear hW k1
    have hten : (Ten W2 wr.heap.size 0 g' (o2 + k * 5) (.string (bstr nm)) (.slice A2 dn c2) (.bool a) (.bool b) (.int .i64 u) (.int .i64 (s0 : Int)) (.int .u16 (s1 : Int)) (.int .u16 (s2 : Int)) (.int .u16 (s3 : Int)) (.int .u16 (s4 : Int))) W2.drew := ⟨⟨p0, p1, p2, p3, p4, q0, q1, q2, q3, q4⟩, (Below.refl _ _).drew⟩
    refine region_boxC (C := (Ten W2 wr.heap.size 0 g' (o2 + k * 5) (.string (bstr nm)) (.slice A2 dn c2) (.bool a) (.bool b) (.int .i64 u) (.int .i64 (s0 : Int)) (.int .u16 (s1 : Int)) (.int .u16 (s2 : Int)) (.int .u16 (s3 : Int)) (.int .u16 (s4 : Int)))) (by kernel_rfl) (by kernel_rfl) hten ?_
    have nb : Nonempty (BoxC (Ten W2 wr.heap.size 0 g' (o2 + k * 5) (.string (bstr nm)) (.slice A2 dn c2) (.bool a) (.bool b) (.int .i64 u) (.int .i64 (s0 : Int)) (.int .u16 (s1 : Int)) (.int .u16 (s2 : Int)) (.int .u16 (s3 : Int)) (.int .u16 (s4 : Int)))) := ⟨⟨_, hten⟩⟩
    have r0 : ∀ t : BoxC (Ten W2 wr.heap.size 0 g' (o2 + k * 5) (.string (bstr nm)) (.slice A2 dn c2) (.bool a) (.bool b) (.int .i64 u) (.int .i64 (s0 : Int)) (.int .u16 (s1 : Int)) (.int .u16 (s2 : Int)) (.int .u16 (s3 : Int)) (.int .u16 (s4 : Int))), t.W.cell? ⟨wr.heap.size, 0, none⟩ = some (.string (bstr nm)) := fun t => t.h.1.1
    have r1 : ∀ t : BoxC (Ten W2 wr.heap.size 0 g' (o2 + k * 5) (.string (bstr nm)) (.slice A2 dn c2) (.bool a) (.bool b) (.int .i64 u) (.int .i64 (s0 : Int)) (.int .u16 (s1 : Int)) (.int .u16 (s2 : Int)) (.int .u16 (s3 : Int)) (.int .u16 (s4 : Int))), t.W.cell? ⟨wr.heap.size, 1, none⟩ = some (.slice A2 dn c2) := fun t => t.h.1.2.1
    have r2 : ∀ t : BoxC (Ten W2 wr.heap.size 0 g' (o2 + k * 5) (.string (bstr nm)) (.slice A2 dn c2) (.bool a) (.bool b) (.int .i64 u) (.int .i64 (s0 : Int)) (.int .u16 (s1 : Int)) (.int .u16 (s2 : Int)) (.int .u16 (s3 : Int)) (.int .u16 (s4 : Int))), t.W.cell? ⟨wr.heap.size, 2, none⟩ = some (.bool a) := fun t => t.h.1.2.2.1
    have r3 : ∀ t : BoxC (Ten W2 wr.heap.size 0 g' (o2 + k * 5) (.string (bstr nm)) (.slice A2 dn c2) (.bool a) (.bool b) (.int .i64 u) (.int .i64 (s0 : Int)) (.int .u16 (s1 : Int)) (.int .u16 (s2 : Int)) (.int .u16 (s3 : Int)) (.int .u16 (s4 : Int))), t.W.cell? ⟨wr.heap.size, 3, none⟩ = some (.bool b) := fun t => t.h.1.2.2.2.1
    have r4 : ∀ t : BoxC (Ten W2 wr.heap.size 0 g' (o2 + k * 5) (.string (bstr nm)) (.slice A2 dn c2) (.bool a) (.bool b) (.int .i64 u) (.int .i64 (s0 : Int)) (.int .u16 (s1 : Int)) (.int .u16 (s2 : Int)) (.int .u16 (s3 : Int)) (.int .u16 (s4 : Int))), t.W.cell? ⟨wr.heap.size, 4, none⟩ = some (.int .i64 u) := fun t => t.h.1.2.2.2.2.1
    have r5 : ∀ t : BoxC (Ten W2 wr.heap.size 0 g' (o2 + k * 5) (.string (bstr nm)) (.slice A2 dn c2) (.bool a) (.bool b) (.int .i64 u) (.int .i64 (s0 : Int)) (.int .u16 (s1 : Int)) (.int .u16 (s2 : Int)) (.int .u16 (s3 : Int)) (.int .u16 (s4 : Int))), t.W.cell? ⟨g', o2 + k * 5, none⟩ = some (.int .i64 (s0 : Int)) := fun t => t.h.1.2.2.2.2.2.1
    have r6 : ∀ t : BoxC (Ten W2 wr.heap.size 0 g' (o2 + k * 5) (.string (bstr nm)) (.slice A2 dn c2) (.bool a) (.bool b) (.int .i64 u) (.int .i64 (s0 : Int)) (.int .u16 (s1 : Int)) (.int .u16 (s2 : Int)) (.int .u16 (s3 : Int)) (.int .u16 (s4 : Int))), t.W.cell? ⟨g', o2 + k * 5 + 1, none⟩ = some (.int .u16 (s1 : Int)) := fun t => t.h.1.2.2.2.2.2.2.1
    have r7 : ∀ t : BoxC (Ten W2 wr.heap.size 0 g' (o2 + k * 5) (.string (bstr nm)) (.slice A2 dn c2) (.bool a) (.bool b) (.int .i64 u) (.int .i64 (s0 : Int)) (.int .u16 (s1 : Int)) (.int .u16 (s2 : Int)) (.int .u16 (s3 : Int)) (.int .u16 (s4 : Int))), t.W.cell? ⟨g', o2 + k * 5 + 2, none⟩ = some (.int .u16 (s2 : Int)) := fun t => t.h.1.2.2.2.2.2.2.2.1
    have r8 : ∀ t : BoxC (Ten W2 wr.heap.size 0 g' (o2 + k * 5) (.string (bstr nm)) (.slice A2 dn c2) (.bool a) (.bool b) (.int .i64 u) (.int .i64 (s0 : Int)) (.int .u16 (s1 : Int)) (.int .u16 (s2 : Int)) (.int .u16 (s3 : Int)) (.int .u16 (s4 : Int))), t.W.cell? ⟨g', o2 + k * 5 + 3, none⟩ = some (.int .u16 (s3 : Int)) := fun t => t.h.1.2.2.2.2.2.2.2.2.1
    have r9 : ∀ t : BoxC (Ten W2 wr.heap.size 0 g' (o2 + k * 5) (.string (bstr nm)) (.slice A2 dn c2) (.bool a) (.bool b) (.int .i64 u) (.int .i64 (s0 : Int)) (.int .u16 (s1 : Int)) (.int .u16 (s2 : Int)) (.int .u16 (s3 : Int)) (.int .u16 (s4 : Int))), t.W.cell? ⟨g', o2 + k * 5 + 4, none⟩ = some (.int .u16 (s4 : Int)) := fun t => t.h.1.2.2.2.2.2.2.2.2.2
    clear p0 p1 p2 p3 p4 q0 q1 q2 q3 q4 hten
    repeat (go_big_quiet_step ((go_at_call 160; exact (HFA.out _).mono (fun _ _ h => ⟨h.1, ⟨_, Ten.keep (BoxC.h _) ⟨hz1, hz2⟩ h.2⟩, rfl⟩))))
    refine wpQuiet_nil ?_
    rintro w5 ⟨t5, rfl⟩
    have hh := t5.h.2
    go_wp2
    go_ret
    exact ⟨ret_bool HR.out.symm, hbw.trans (hh.mono hbw.size)⟩
   | true =>
    have HFA := Lib.hid (fun W => fitsArguments_any nm A2 dn c2 a b u s0 s1 s2 s3 s4 true h1 W)
    cases h2 : unitS u (s0, s1, s2, s3, s4) S with
    | false =>
     have HR := Lib.hid (HBAD.out (by simp [h2]))
     have HFU := Lib.hid (fun W (hW : Below w.heap.size w W) => fitsUnit_any nm A2 dn c2 a b u hu64 s0 s1 s2 s3 s4 S false h2 _ W (HT.out.below RS_steady (Nat.le_refl _) hW))
     clear h1 h2 HGOOD
     go_wp2_with fail
     generalize hW : wr.alloc (.cells #[.string (bstr nm), .slice A2 dn c2, .bool a, .bool b, .int .i64 u] 113) = W2
     have hbw : Below w.heap.size w W2 := by rw [← hW]; exact hbel.alloc hbel.size _
     have hz1 : wr.heap.size < W2.heap.size := by rw [← hW]; simp
     have hz2 : g' < W2.heap.size := by rw [← hW]; simp; omega
     have k1 : W2.heap[wr.heap.size]? = some (.cells #[.string (bstr nm), .slice A2 dn c2, .bool a, .bool b, .int .i64 u] 113 (0, 0)) := by rw [← hW]; exact heap_at _ _ _ rfl
     have p0 : W2.cell? ⟨wr.heap.size, 0, none⟩ = some (.string (bstr nm)) := cell_of_row W2 _ 0 _ _ _ k1
     have p1 : W2.cell? ⟨wr.heap.size, 1, none⟩ = some (.slice A2 dn c2) := cell_of_row W2 _ 1 _ _ _ k1
     have p2 : W2.cell? ⟨wr.heap.size, 2, none⟩ = some (.bool a) := cell_of_row W2 _ 2 _ _ _ k1
     have p3 : W2.cell? ⟨wr.heap.size, 3, none⟩ = some (.bool b) := cell_of_row W2 _ 3 _ _ _ k1
     have p4 : W2.cell? ⟨wr.heap.size, 4, none⟩ = some (.int .i64 u) := cell_of_row W2 _ 4 _ _ _ k1
     have q0 : W2.cell? ⟨g', o2 + k * 5, none⟩ = some (.int .i64 (s0 : Int)) := by rw [← hW, (Below.cell ((Below.refl wr.heap.size wr).alloc (Nat.le_refl _) _) (p := ⟨g', o2 + k * 5, none⟩) (by show g' < _; omega))]; exact d0
     have q1 : W2.cell? ⟨g', o2 + k * 5 + 1, none⟩ = some (.int .u16 (s1 : Int)) := by rw [← hW, (Below.cell ((Below.refl wr.heap.size wr).alloc (Nat.le_refl _) _) (p := ⟨g', o2 + k * 5 + 1, none⟩) (by show g' < _; omega))]; exact d1
     have q2 : W2.cell? ⟨g', o2 + k * 5 + 2, none⟩ = some (.int .u16 (s2 : Int)) := by rw [← hW, (Below.cell ((Below.refl wr.heap.size wr).alloc (Nat.le_refl _) _) (p := ⟨g', o2 + k * 5 + 2, none⟩) (by show g' < _; omega))]; exact d2
     have q3 : W2.cell? ⟨g', o2 + k * 5 + 3, none⟩ = some (.int .u16 (s3 : Int)) := by rw [← hW, (Below.cell ((Below.refl wr.heap.size wr).alloc (Nat.le_refl _) _) (p := ⟨g', o2 + k * 5 + 3, none⟩) (by show g' < _; omega))]; exact d3
     have q4 : W2.cell? ⟨g', o2 + k * 5 + 4, none⟩ = some (.int .u16 (s4 : Int)) := by rw [← hW, (Below.cell ((Below.refl wr.heap.size wr).alloc (Nat.le_refl _) _) (p := ⟨g', o2 + k * 5 + 4, none⟩) (by show g' < _; omega))]; exact d4
     clear hW k1
     go_region_held3 (fun w' => (w'.cell? ⟨wr.heap.size, 0, none⟩ = some (.string (bstr nm)) ∧ w'.cell? ⟨wr.heap.size, 1, none⟩ = some (.slice A2 dn c2) ∧ w'.cell? ⟨wr.heap.size, 2, none⟩ = some (.bool a) ∧ w'.cell? ⟨wr.heap.size, 3, none⟩ = some (.bool b) ∧ w'.cell? ⟨wr.heap.size, 4, none⟩ = some (.int .i64 u) ∧ w'.cell? ⟨g', o2 + k * 5, none⟩ = some (.int .i64 (s0 : Int)) ∧ w'.cell? ⟨g', o2 + k * 5 + 1, none⟩ = some (.int .u16 (s1 : Int)) ∧ w'.cell? ⟨g', o2 + k * 5 + 2, none⟩ = some (.int .u16 (s2 : Int)) ∧ w'.cell? ⟨g', o2 + k * 5 + 3, none⟩ = some (.int .u16 (s3 : Int)) ∧ w'.cell? ⟨g', o2 + k * 5 + 4, none⟩ = some (.int .u16 (s4 : Int))) ∧ Below W2.heap.size W2 w')
      (first | (refine ⟨⟨?_, ?_, ?_, ?_, ?_, ?_, ?_, ?_, ?_, ?_⟩, (Below.refl _ _).drew⟩ <;> assumption) | (go_split_ands; exact keep_ten (g := wr.heap.size) (o := 0) (g' := g') (o' := o2 + k * 5) ⟨⟨by assumption, by assumption, by assumption, by assumption, by assumption, by assumption, by assumption, by assumption, by assumption, by assumption⟩, by assumption⟩ ⟨hz1, hz2⟩ (by assumption)))
      (first
       | (go_at_call 160; go_split_ands; refine (HFA.out _).mono ?_; rintro e w3 ⟨rfl, hb3⟩)
       | (go_at_call 161; go_split_ands; refine (HFU.out _ (hbw.trans (Below.mono (by assumption) hbw.size))).mono ?_; rintro e w4 ⟨rfl, hb4⟩))
     go_wp2
     have hh : Below W2.heap.size W2 w4 := by go_split_ands; assumption
     go_ret
     exact ⟨ret_bool HR.out.symm, hbw.trans (hh.mono hbw.size)⟩
    | true =>
     have HG := Lib.hid (HGOOD.out (by simp [h1, h2]))
     have HFU := Lib.hid (fun W (hW : Below w.heap.size w W) => fitsUnit_any nm A2 dn c2 a b u hu64 s0 s1 s2 s3 s4 S true h2 _ W (HT.out.below RS_steady (Nat.le_refl _) hW))
     clear h1 h2 HGOOD
     go_wp2_with fail
     generalize hW : wr.alloc (.cells #[.string (bstr nm), .slice A2 dn c2, .bool a, .bool b, .int .i64 u] 113) = W2
     have hbw : Below w.heap.size w W2 := by rw [← hW]; exact hbel.alloc hbel.size _
     have hz1 : wr.heap.size < W2.heap.size := by rw [← hW]; simp
     have hz2 : g' < W2.heap.size := by rw [← hW]; simp; omega
     have k1 : W2.heap[wr.heap.size]? = some (.cells #[.string (bstr nm), .slice A2 dn c2, .bool a, .bool b, .int .i64 u] 113 (0, 0)) := by rw [← hW]; exact heap_at _ _ _ rfl
     have p0 : W2.cell? ⟨wr.heap.size, 0, none⟩ = some (.string (bstr nm)) := cell_of_row W2 _ 0 _ _ _ k1
     have p1 : W2.cell? ⟨wr.heap.size, 1, none⟩ = some (.slice A2 dn c2) := cell_of_row W2 _ 1 _ _ _ k1
     have p2 : W2.cell? ⟨wr.heap.size, 2, none⟩ = some (.bool a) := cell_of_row W2 _ 2 _ _ _ k1
     have p3 : W2.cell? ⟨wr.heap.size, 3, none⟩ = some (.bool b) := cell_of_row W2 _ 3 _ _ _ k1
     have p4 : W2.cell? ⟨wr.heap.size, 4, none⟩ = some (.int .i64 u) := cell_of_row W2 _ 4 _ _ _ k1
     have q0 : W2.cell? ⟨g', o2 + k * 5, none⟩ = some (.int .i64 (s0 : Int)) := by rw [← hW, (Below.cell ((Below.refl wr.heap.size wr).alloc (Nat.le_refl _) _) (p := ⟨g', o2 + k * 5, none⟩) (by show g' < _; omega))]; exact d0
     have q1 : W2.cell? ⟨g', o2 + k * 5 + 1, none⟩ = some (.int .u16 (s1 : Int)) := by rw [← hW, (Below.cell ((Below.refl wr.heap.size wr).alloc (Nat.le_refl _) _) (p := ⟨g', o2 + k * 5 + 1, none⟩) (by show g' < _; omega))]; exact d1
     have q2 : W2.cell? ⟨g', o2 + k * 5 + 2, none⟩ = some (.int .u16 (s2 : Int)) := by rw [← hW, (Below.cell ((Below.refl wr.heap.size wr).alloc (Nat.le_refl _) _) (p := ⟨g', o2 + k * 5 + 2, none⟩) (by show g' < _; omega))]; exact d2
     have q3 : W2.cell? ⟨g', o2 + k * 5 + 3, none⟩ = some (.int .u16 (s3 : Int)) := by rw [← hW, (Below.cell ((Below.refl wr.heap.size wr).alloc (Nat.le_refl _) _) (p := ⟨g', o2 + k * 5 + 3, none⟩) (by show g' < _; omega))]; exact d3
     have q4 : W2.cell? ⟨g', o2 + k * 5 + 4, none⟩ = some (.int .u16 (s4 : Int)) := by rw [← hW, (Below.cell ((Below.refl wr.heap.size wr).alloc (Nat.le_refl _) _) (p := ⟨g', o2 + k * 5 + 4, none⟩) (by show g' < _; omega))]; exact d4
     clear hW k1
     go_region_held3 (fun w' => (w'.cell? ⟨wr.heap.size, 0, none⟩ = some (.string (bstr nm)) ∧ w'.cell? ⟨wr.heap.size, 1, none⟩ = some (.slice A2 dn c2) ∧ w'.cell? ⟨wr.heap.size, 2, none⟩ = some (.bool a) ∧ w'.cell? ⟨wr.heap.size, 3, none⟩ = some (.bool b) ∧ w'.cell? ⟨wr.heap.size, 4, none⟩ = some (.int .i64 u) ∧ w'.cell? ⟨g', o2 + k * 5, none⟩ = some (.int .i64 (s0 : Int)) ∧ w'.cell? ⟨g', o2 + k * 5 + 1, none⟩ = some (.int .u16 (s1 : Int)) ∧ w'.cell? ⟨g', o2 + k * 5 + 2, none⟩ = some (.int .u16 (s2 : Int)) ∧ w'.cell? ⟨g', o2 + k * 5 + 3, none⟩ = some (.int .u16 (s3 : Int)) ∧ w'.cell? ⟨g', o2 + k * 5 + 4, none⟩ = some (.int .u16 (s4 : Int))) ∧ Below W2.heap.size W2 w')
      (first | (refine ⟨⟨?_, ?_, ?_, ?_, ?_, ?_, ?_, ?_, ?_, ?_⟩, (Below.refl _ _).drew⟩ <;> assumption) | (go_split_ands; exact keep_ten (g := wr.heap.size) (o := 0) (g' := g') (o' := o2 + k * 5) ⟨⟨by assumption, by assumption, by assumption, by assumption, by assumption, by assumption, by assumption, by assumption, by assumption, by assumption⟩, by assumption⟩ ⟨hz1, hz2⟩ (by assumption)))
      (first
       | (go_at_call 160; go_split_ands; refine (HFA.out _).mono ?_; rintro e w3 ⟨rfl, hb3⟩)
       | (go_at_call 161; go_split_ands; refine (HFU.out _ (hbw.trans (Below.mono (by assumption) hbw.size))).mono ?_; rintro e w4 ⟨rfl, hb4⟩))
     go_wp2
     go_roundw
     case rel =>
      have hh : Below W2.heap.size W2 w4 := by go_split_ands; assumption
      exact ⟨k + 1, by omega, by go_num, HG, hbw.trans (hh.mono hbw.size)⟩
     case measure => simp [intOf]; omega
  ·obtain rfl : k = n := by omega
   have HR : Hid (r = true) := Lib.hid (by rw [← hr]; exact fitB_good (fun j hj => HALL.out j (by have := HN.out; omega)))
   go_wp2
   go_ret
   exact ⟨ret_bool HR.out.symm, hbel⟩
end Go.Proofs.YtkkmjaggebjcbaaGreat.sigr
/-
 THE PROGRAM's FUNCTIONS OF SIGNATURES: IsSignature, FindOp, ArityOf, IsFreeSignature.
-/
namespace Go.Proofs.YtkkmjaggebjcbaaGreat.sigv
open Go.ChangeShapes Go.WideShapes Go.ChangeAt Go.RowKit
open mem split strl join subs sortn setm sets sortm sortp sorti sortf rowl sigm sigs sigi sigj sigk sigq sigr

theorem run_eql_map {P : Program} (w : World) (t k e : TypeId) (m : Option Nat) (h : P.underlying t = some (.map k e)) : (binOp .eql t (.map m) (.map none)).run P w = .ok (.bool m.isNone) w := by
 simp only [binOp]
 simp [run_equal_map_nil w t k e m h]
theorem names_short {lo : Nat} {w : World} {v : Value} {O : List OpM} (h : HasO lo w v O) : ∀ k, k < (nms O).length → ((nms O).getD k []).length ≤ maxLen := by
 intro k hk
 obtain ⟨A, c, rfl, h⟩ := HasR.shape h rfl
 rw [nms_len] at hk
 obtain ⟨_, _, _, _, _, _, _, _, _, _, _, _, _, hnl, _⟩ := op_at h hk
 rw [nms_get O k hk]; exact hnl
/-- what signatureShapes leaves -/
def ShapesP (P : List (List UInt8)) (Q : List (Int × Int)) (O : List OpM) (r : Bool) (w : World) (e : Ending) (w' : World) : Prop := ∃ mv sv, e = .returned (.tuple #[mv, sv]) ∧ (r = false → mv = .map none ∧ sv = .slice none 0 0) ∧
 (r = true → (∃ b, mv = .map (some b)) ∧ (∃ A c, sv = .slice A O.length c) ∧ MapU w' mv (kindsU P Q) ∧ HasT w' sv (shps (κU (kindsU P Q)) O)) ∧ Below w.heap.size w w'
set_option maxRecDepth 20000 in
set_option maxHeartbeats 2000000 in
/-- impl.signatureShapes -/
theorem sigShapes_any (P : List (List UInt8)) (Q : List (Int × Int)) (O : List OpM) (va vb vc : Value) (r : Bool) (hr : sigOk P Q O = r) (w : World) (h : HasG w va vb vc P Q O) :
  Calls Tryz.prog 82 #[.agg #[va, vb, vc]] w (ShapesP P Q O r w) := by
 have HSK := Lib.hid (fun W (hW : Below w.heap.size w W) => sortKinds_any P Q va vb W (h.below (Nat.le_refl _) hW).s)
 obtain ⟨A, ca, B, cb, C, cc, rfl, rfl, rfl, hl1, hl2, hl3, h'⟩ := h.shape
 have heql : ∀ (m : Option Nat) (W : World), (binOp .eql 75 (.map m) (.map none)).run Tryz.prog W = .ok (.bool m.isNone) W := fun m W => run_eql_map W 75 _ _ m Tryz.underlying75
 have HOO := Lib.hid (fun W (hW : Below w.heap.size w W) => (h'.below (Nat.le_refl _) hW).o)
 have HSH := Lib.hid (names_short h'.o)
 rw [sigOk_C] at hr
 obtain ⟨n, hn⟩ : ∃ n, n = O.length := ⟨_, rfl⟩
 have HN := Lib.hid hn
 rw [← hn] at hl3 HOO ⊢
 clear h h' hn
 cases hok : okS P Q with
 | false =>
  have HR : Hid (r = false) := Lib.hid (by rw [← hr, hok]; rfl)
  have HOK := Lib.hid hok
  clear hok hr
  go_enter Tryz.func82, Tryz.ntmps82
  go_wp2_with fail
  refine (HSK.out _ ((Below.refl _ _).alloc (Nat.le_refl _) _)).mono ?_
  rintro e w1 ⟨mv, rfl, hM, hy, hno, hb1⟩
  obtain rfl := hno HOK.out
  clear hM hy hno
  go_wp2
  refine bodyPost_ret (v := .tuple #[.map none, .slice none 0 0]) (by simp [results, Tryz.results82, go_sem]) rfl ?_
  exact ⟨_, _, rfl, fun _ => ⟨rfl, rfl⟩, (fun h => by rw [HR.out] at h; cases h), ((Below.refl _ _).alloc (Nat.le_refl _) _).trans (hb1.mono (by simp))⟩
 | true =>
  have hr2 : opsOk P.length (κC P.length Q) O = r := by rw [← hr, hok]; rfl
  have hU : kindsU P Q = clo P.length (both (prs Q)) := by rw [kindsU, if_pos hok]
  have hκ : κU (kindsU P Q) = κC P.length Q := by funext x; rw [hU]; rfl
  have hUl : (kindsU P Q).length = P.length := by rw [kindsU_len, if_pos hok]
  obtain ⟨p1, p2, p3, p4, p5⟩ := okS_parts hok
  have HKU : Hid (kindsU P Q = kindsU P Q) := Lib.hid rfl
  have hlim : Lim (kindsU P Q) := ⟨by omega, fun i => by rw [hUl, hU]; exact clo_lt (both_in p3.inR) i⟩
  have HLIM := Lib.hid hlim
  have HOK := Lib.hid hok
  rw [← hκ, ← hUl] at hr2
  clear hr hU hκ hUl hlim hok p1 p2 p3 p4 p5
  obtain ⟨U, hUU⟩ : ∃ U, U = kindsU P Q := ⟨_, rfl⟩
  rw [← hUU] at HSK HLIM hr2
  have HUU := Lib.hid hUU
  clear hUU HKU
  by_cases hbig : 14 < n
  ·have HR : Hid (r = false) := Lib.hid (by rw [← hr2, opsOk]; have := HN.out; simp; omega)
   clear hr2
   go_enter Tryz.func82, Tryz.ntmps82
   go_wp2_with fail
   refine (HSK.out _ ((Below.refl _ _).alloc (Nat.le_refl _) _)).mono ?_
   rintro e w1 ⟨mv, rfl, hM, hy, hno, hb1⟩
   obtain ⟨b, rfl⟩ := hy HOK.out
   have c2 : w1.cell? ⟨w.heap.size, 2, none⟩ = some (.slice C n cc) := by rw [hb1.cell (p := ⟨w.heap.size, 2, none⟩) (by simp)]; simp
   clear hM hy hno
   go_wp2
   refine bodyPost_ret (v := .tuple #[.map none, .slice none 0 0]) (by simp [results, Tryz.results82, go_sem]) rfl ?_
   exact ⟨_, _, rfl, fun _ => ⟨rfl, rfl⟩, (fun h => by rw [HR.out] at h; cases h), ((Below.refl _ _).alloc (Nat.le_refl _) _).trans (hb1.mono (by simp))⟩
  have HN14 : Hid (O.length ≤ 14) := Lib.hid (by have := HN.out; omega)
  have HNM : Hid (∀ r v W, namesTo (nms O) O.length = r → Has W v (ssv (nms O)) → Calls Tryz.prog 119 #[v] W fun e w' => e = .returned (.bool r) ∧ W = w') :=
   Lib.hid (fun r v W hr hH => diff_any (nms O) HSH.out v r (by rw [nms_len]; exact hr) W hH)
  go_enter Tryz.func82, Tryz.ntmps82
  go_wp2_with fail
  refine (HSK.out _ ((Below.refl _ _).alloc (Nat.le_refl _) _)).mono ?_
  rintro e w1 ⟨mv, rfl, hM, hy, hno, hb1⟩
  obtain ⟨b, rfl⟩ := hy HOK.out
  have c2 : w1.cell? ⟨w.heap.size, 2, none⟩ = some (.slice C n cc) := by rw [hb1.cell (p := ⟨w.heap.size, 2, none⟩) (by simp)]; simp
  have hbw1 : Below w.heap.size w w1 := ((Below.refl _ _).alloc (Nat.le_refl _) _).trans (hb1.mono (by simp))
  have hs1 : w.heap.size < w1.heap.size := by have := hb1.size; simp at this; omega
  have HM := Lib.hid hM
  clear hM hy hno hb1
  go_wp2_with fail
  refine (opNames_any O HN14.out _ _ (HOO.out _ hbw1)).mono ?_
  rintro e w2 ⟨v2, rfl, hv2, hb2⟩
  have HV2 := Lib.hid hv2
  have d2 : w2.cell? ⟨w.heap.size, 2, none⟩ = some (.slice C n cc) := (hb2.cell (by exact hs1)).trans c2
  have hbw2 := hbw1.trans (hb2.mono hbw1.size)
  have hs2 : w.heap.size < w2.heap.size := Nat.lt_of_lt_of_le hs1 hb2.size
  have HM2 := Lib.hid (HM.out.below hb2)
  clear hv2 hb2 c2
  go_wp2_with fail
  cases hnm : namesTo (nms O) O.length with
  | false =>
   have HR : Hid (r = false) := Lib.hid (by rw [← hr2, opsOk, hnm]; simp)
   refine (HNM.out _ _ _ hnm HV2.out).mono ?_
   rintro e w3 ⟨rfl, rfl⟩
   clear hnm hr2
   go_wp2
   refine bodyPost_ret (v := .tuple #[.map none, .slice none 0 0]) (by simp [results, Tryz.results82, go_sem]) rfl ?_
   exact ⟨_, _, rfl, fun _ => ⟨rfl, rfl⟩, (fun h => by rw [HR.out] at h; cases h), hbw2⟩
  | true =>
   refine (HNM.out _ _ _ hnm HV2.out).mono ?_
   rintro e w3 ⟨rfl, rfl⟩
   go_wp2_with fail
   cases hds : (O.all fun o => declsOk U.length (κU U) o.decls) with
   | false =>
    have HR : Hid (r = false) := Lib.hid (by rw [← hr2, opsOk, hds]; simp)
    refine (opShapes_any U HLIM.out O HN14.out false hds _ _ _ (HOO.out _ hbw2) HM2.out).mono ?_
    rintro e w3 ⟨v3, rfl, _, hv3, hb3⟩
    obtain rfl := hv3 rfl
    have e2 : w3.cell? ⟨w.heap.size, 2, none⟩ = some (.slice C n cc) := (hb3.cell (by exact hs2)).trans d2
    clear hnm hr2 hds d2 hv3
    go_wp2
    refine bodyPost_ret (v := .tuple #[.map none, .slice none 0 0]) (by simp [results, Tryz.results82, go_sem]) rfl ?_
    exact ⟨_, _, rfl, fun _ => ⟨rfl, rfl⟩, (fun h => by rw [HR.out] at h; cases h), hbw2.trans (hb3.mono hbw2.size)⟩
   | true =>
    refine (opShapes_any U HLIM.out O HN14.out true hds _ _ _ (HOO.out _ hbw2) HM2.out).mono ?_
    rintro e w3 ⟨v3, rfl, hv3, _, hb3⟩
    have hT := hv3 rfl
    obtain ⟨A5, c5, rfl, hT5⟩ := HasR.shape hT rfl
    have HT := Lib.hid hT5
    have e2 : w3.cell? ⟨w.heap.size, 2, none⟩ = some (.slice C n cc) := (hb3.cell (by exact hs2)).trans d2
    have hbw3 := hbw2.trans (hb3.mono hbw2.size)
    have HFR : Hid (fitB O (shps (κU U) O) = r) := Lib.hid (by
     rw [fitB_eq (firsts_of hds), ← hr2, opsOk, hnm, hds]
     have := HN14.out
     simp [this])
    have HM3 := Lib.hid (HM2.out.below hb3)
    clear hnm hr2 hds d2 hv3 hT hT5 hb3
    cases r with
    | false =>
     go_wp2_with fail
     refine (fitAxioms_any O (shps (κU U) O) (shps_len _ _) false HFR.out _ _ _ (HOO.out _ hbw3) HT.out).mono ?_
     rintro e w4 ⟨rfl, hb4⟩
     go_wp2
     refine bodyPost_ret (v := .tuple #[.map none, .slice none 0 0]) (by simp [results, Tryz.results82, go_sem]) rfl ?_
     exact ⟨_, _, rfl, fun _ => ⟨rfl, rfl⟩, (fun h => by cases h), hbw3.trans (hb4.mono hbw3.size)⟩
    | true =>
     go_wp2_with fail
     refine (fitAxioms_any O (shps (κU U) O) (shps_len _ _) true HFR.out _ _ _ (HOO.out _ hbw3) HT.out).mono ?_
     rintro e w4 ⟨rfl, hb4⟩
     have HP : Hid (ShapesP P Q O true w (.returned (.tuple #[.map (some b), .slice A5 (shps (κU U) O).length c5])) w4) := Lib.hid ⟨_, _, rfl, (fun h => by cases h), fun _ => ⟨⟨_, rfl⟩, ⟨A5, c5, by rw [shps_len]⟩, by rw [← HUU.out]; exact HM3.out.below hb4, by rw [← HUU.out]; exact HasR.below RS_steady HT.out (Nat.le_refl _) hb4⟩, hbw3.trans (hb4.mono hbw3.size)⟩
     go_wp2
     refine bodyPost_ret (v := .tuple #[.map (some b), .slice A5 (shps (κU U) O).length c5]) (by simp [results, Tryz.results82, go_sem]) rfl ?_
     exact HP.out
end Go.Proofs.YtkkmjaggebjcbaaGreat.sigv
/-
 CONTRACTS OF THE LAWS' OWN FUNCTIONS ON TERMS: eqTerm (at equal terms), markTerm and heldTermS, and those of their rows.
-/
namespace Go.Proofs.YtkkmjaggebjcbaaGreat.termu
open Go.ChangeShapes Go.WideShapes Go.ChangeAt Go.RowKit
open mem dec rowl trm trmv terml termt

theorem op_mk (o : Int) (n : List UInt8) (s : Int) (l : List TermM) : (TermM.mk o n s l).op = o := rfl
theorem name_mk (o : Int) (n : List UInt8) (s : Int) (l : List TermM) : (TermM.mk o n s l).name = n := rfl
theorem sort_mk (o : Int) (n : List UInt8) (s : Int) (l : List TermM) : (TermM.mk o n s l).sort = s := rfl
theorem args_mk (o : Int) (n : List UInt8) (s : Int) (l : List TermM) : (TermM.mk o n s l).args = l := rfl
/-- laws.eqTermS, at equal terms of at most this depth -/
def EqS (n : Nat) : Prop := ∀ (L : List TermM) (va vb : Value) (w : World) (lo lo' : Nat), HasTs n lo w va L → HasTs n lo' w vb L →
 Calls Tryz.prog 14 #[va, vb] w fun e w' => e = .returned (.bool true) ∧ Below w.heap.size w w'
/-- laws.eqTerm -/
theorem eqTerm_of {n : Nat} (hS : EqS n) (op : Int) (l : List UInt8) (s : Int) (L : List TermM) (va vb : Value) (w : World) {lo lo' : Nat} (ha : HasTs n lo w va L) (hb : HasTs n lo' w vb L) :
  Calls Tryz.prog 12 #[.agg #[.int .i64 op, .string (bstr l), .int .i64 s, va], .agg #[.int .i64 op, .string (bstr l), .int .i64 s, vb]] w fun e w' => e = .returned (.bool true) ∧ Below w.heap.size w w' := by
 have HE := Lib.hid (fun W (hW : Below w.heap.size w W) => hS L va vb W lo lo' (ha.below (Nat.le_refl _) hW) (hb.below (Nat.le_refl _) hW))
 obtain ⟨A, ca, rfl, _⟩ := HasR.shape ha rfl
 obtain ⟨B, cb, rfl, _⟩ := HasR.shape hb rfl
 obtain ⟨k, hk⟩ : ∃ k, k = L.length := ⟨_, rfl⟩
 rw [← hk] at HE ⊢
 clear ha hb hk
 go_enter Tryz.func12, Tryz.ntmps12
 go_wp2_with fail
 refine (HE.out _ (((Below.refl _ _).alloc (Nat.le_refl _) _).alloc (by simp) _)).mono ?_
 rintro e w1 ⟨rfl, hb1⟩
 have hbw : Below w.heap.size w w1 := (((Below.refl _ _).alloc (Nat.le_refl _) _).alloc (by simp) _).trans (hb1.mono (by simp; omega))
 clear hb1
 go_wp2
 go_ret
 exact ⟨rfl, hbw⟩
/-- eight cells stay, whatever a call adds -/
theorem keep_eight {wr w0 w1 : World} {g g' o o' : Nat} {a0 a1 a2 a3 b0 b1 b2 b3 : Value}
  (h : (w0.cell? ⟨g, o, none⟩ = some a0 ∧ w0.cell? ⟨g, o + 1, none⟩ = some a1 ∧ w0.cell? ⟨g, o + 2, none⟩ = some a2 ∧ w0.cell? ⟨g, o + 3, none⟩ = some a3 ∧
   w0.cell? ⟨g', o', none⟩ = some b0 ∧ w0.cell? ⟨g', o' + 1, none⟩ = some b1 ∧ w0.cell? ⟨g', o' + 2, none⟩ = some b2 ∧ w0.cell? ⟨g', o' + 3, none⟩ = some b3) ∧ Below wr.heap.size wr w0)
  (hp : g < wr.heap.size ∧ g' < wr.heap.size) (hb : Below w0.heap.size w0 w1) :
  (w1.cell? ⟨g, o, none⟩ = some a0 ∧ w1.cell? ⟨g, o + 1, none⟩ = some a1 ∧ w1.cell? ⟨g, o + 2, none⟩ = some a2 ∧ w1.cell? ⟨g, o + 3, none⟩ = some a3 ∧
   w1.cell? ⟨g', o', none⟩ = some b0 ∧ w1.cell? ⟨g', o' + 1, none⟩ = some b1 ∧ w1.cell? ⟨g', o' + 2, none⟩ = some b2 ∧ w1.cell? ⟨g', o' + 3, none⟩ = some b3) ∧ Below wr.heap.size wr w1 := by
 have hs := h.2.size
 have k : ∀ x, w1.cell? ⟨g, x, none⟩ = w0.cell? ⟨g, x, none⟩ := fun x => hb.cell (p := ⟨g, x, none⟩) (by show g < _; omega)
 have k' : ∀ x, w1.cell? ⟨g', x, none⟩ = w0.cell? ⟨g', x, none⟩ := fun x => hb.cell (p := ⟨g', x, none⟩) (by show g' < _; omega)
 rw [k, k, k, k, k', k', k', k']
 exact ⟨h.1, h.2.trans (hb.mono hs)⟩
/-- three cells stay, whatever a call adds -/
theorem keep_three3 {wr w0 w1 : World} {g o1 o2 o3 : Nat} {a1 a2 a3 : Value} (h : (w0.cell? ⟨g, o1, none⟩ = some a1 ∧ w0.cell? ⟨g, o2, none⟩ = some a2 ∧ w0.cell? ⟨g, o3, none⟩ = some a3) ∧ Below wr.heap.size wr w0)
  (hp : g < wr.heap.size) (hb : Below w0.heap.size w0 w1) : (w1.cell? ⟨g, o1, none⟩ = some a1 ∧ w1.cell? ⟨g, o2, none⟩ = some a2 ∧ w1.cell? ⟨g, o3, none⟩ = some a3) ∧ Below wr.heap.size wr w1 := by
 have hs := h.2.size
 have k : ∀ x, w1.cell? ⟨g, x, none⟩ = w0.cell? ⟨g, x, none⟩ := fun x => hb.cell (p := ⟨g, x, none⟩) (by show g < _; omega)
 rw [k, k, k]
 exact ⟨h.1, h.2.trans (hb.mono hs)⟩
theorem eqS_step {n : Nat} (hS : ∀ k, n = k + 1 → EqS k) : EqS n := by
 intro L va vb w lo lo' ha hb
 obtain ⟨N, hN⟩ : ∃ N, N = L.length := ⟨_, rfl⟩
 obtain ⟨A, ca, rfl, ha⟩ := HasR.shape ha hN.symm
 obtain ⟨B, cb, rfl, hb⟩ := HasR.shape hb hN.symm
 have hla := ha.len.2.1
 have HA := Lib.hid ha
 have HB := Lib.hid hb
 have HS := Lib.hid hS
 clear ha hb hN hS
 go_enter Tryz.func14, Tryz.ntmps14
 go_wp2
 go_loopw [5] (fun i wr => ∃ k : Nat, k ≤ N ∧ i = .int .i64 k ∧ Below w.heap.size w wr) (fun i _ => N - (intOf i).toNat)
 case atStart => exact ⟨0, Nat.zero_le _, rfl, Below.refl _ _⟩
 case round =>
  obtain ⟨k, hk, rfl, hbel⟩ := hrel
  by_cases hlt : k < N
  ·obtain ⟨ka, ga, oa, A2, a2, hna, rfl, _, hga, ha0, ha1, ha2, ha3, hha, _⟩ := term_at HA.out hlt
   obtain ⟨kb, gb, ob, B2, b2, hnb, rfl, _, hgb, hb0, hb1, hb2, hb3, hhb, _⟩ := term_at HB.out hlt
   obtain rfl : ka = kb := by omega
   have qa : ∀ x, w.cell? ⟨ga, x, none⟩ = wr.cell? ⟨ga, x, none⟩ := fun x => (hbel.cell (p := ⟨ga, x, none⟩) hga).symm
   have qb : ∀ x, w.cell? ⟨gb, x, none⟩ = wr.cell? ⟨gb, x, none⟩ := fun x => (hbel.cell (p := ⟨gb, x, none⟩) hgb).symm
   rw [qa] at ha0 ha1 ha2 ha3
   rw [qb] at hb0 hb1 hb2 hb3
   have hga2 : ga < wr.heap.size := Nat.lt_of_lt_of_le hga hbel.size
   have hgb2 : gb < wr.heap.size := Nat.lt_of_lt_of_le hgb hbel.size
   have hh1 := hha.below (Nat.le_refl _) hbel
   have hh2 := hhb.below (Nat.le_refl _) hbel
   obtain ⟨⟨op, nm, so, D⟩, hd⟩ : ∃ d, d = L.getD k default := ⟨_, rfl⟩
   rw [← hd] at ha0 ha1 ha2 ha3 hb0 hb1 hb2 hb3 hh1 hh2
   obtain ⟨m, hm⟩ : ∃ m, m = D.length := ⟨_, rfl⟩
   simp only [TermM.op, TermM.name, TermM.sort, TermM.args, ← hm] at ha0 ha1 ha2 ha3 hb0 hb1 hb2 hb3 hh1 hh2
   have HE := Lib.hid (fun W (hW : Below wr.heap.size wr W) => eqTerm_of (HS.out ka hna) op nm so D _ _ W (hh1.below (Nat.le_refl _) hW) (hh2.below (Nat.le_refl _) hW))
   clear hh1 hh2 hha hhb hd hm qa qb hna hnb
   go_wp2_with fail
   go_region_held3 (fun w' => (w'.cell? ⟨ga, oa + k * 4, none⟩ = some (.int .i64 op) ∧ w'.cell? ⟨ga, oa + k * 4 + 1, none⟩ = some (.string (bstr nm)) ∧ w'.cell? ⟨ga, oa + k * 4 + 2, none⟩ = some (.int .i64 so) ∧ w'.cell? ⟨ga, oa + k * 4 + 3, none⟩ = some (.slice A2 m a2) ∧
     w'.cell? ⟨gb, ob + k * 4, none⟩ = some (.int .i64 op) ∧ w'.cell? ⟨gb, ob + k * 4 + 1, none⟩ = some (.string (bstr nm)) ∧ w'.cell? ⟨gb, ob + k * 4 + 2, none⟩ = some (.int .i64 so) ∧ w'.cell? ⟨gb, ob + k * 4 + 3, none⟩ = some (.slice B2 m b2)) ∧ Below wr.heap.size wr w')
    (first | (refine ⟨⟨?_, ?_, ?_, ?_, ?_, ?_, ?_, ?_⟩, (Below.refl _ _).drew⟩ <;> assumption) | (go_split_ands; exact keep_eight (g := ga) (g' := gb) ⟨⟨by assumption, by assumption, by assumption, by assumption, by assumption, by assumption, by assumption, by assumption⟩, by assumption⟩ ⟨hga2, hgb2⟩ (by assumption)))
    ((go_at_call 12; go_split_ands; refine (HE.out _ (by assumption)).mono ?_; rintro e w1 ⟨rfl, hb1⟩))
   go_wp2
   go_roundw
   case rel =>
    have hh : Below wr.heap.size wr w1 := by go_split_ands; assumption
    exact ⟨k + 1, by omega, by go_num, hbel.trans (hh.mono hbel.size)⟩
   case measure => simp [intOf]; omega
  ·obtain rfl : k = N := by omega
   go_wp2
   go_ret
   exact ⟨rfl, hbel⟩
theorem eqTermS_same : ∀ n, EqS n
 | 0 => eqS_step (fun k h => by omega)
 | n + 1 => eqS_step (fun k h => Nat.succ.inj h ▸ eqTermS_same n)
theorem eqTerm_any {n m : Nat} (op : Int) (l : List UInt8) (s : Int) (L : List TermM) (va vb : Value) (w : World) {lo lo' : Nat} (ha : HasTs n lo w va L) (hb : HasTs m lo' w vb L) :
  Calls Tryz.prog 12 #[.agg #[.int .i64 op, .string (bstr l), .int .i64 s, va], .agg #[.int .i64 op, .string (bstr l), .int .i64 s, vb]] w fun e w' => e = .returned (.bool true) ∧ Below w.heap.size w w' :=
 eqTerm_of (eqTermS_same (max n m)) op l s L va vb w (ha.up (Nat.le_max_left _ _)) (hb.up (Nat.le_max_right _ _))
theorem far_cell {w : World} {g i j : Nat} {v : Value} (h : i ≠ j) : (w.setCell ⟨g, i, none⟩ v).cell? ⟨g, j, none⟩ = w.cell? ⟨g, j, none⟩ :=
 World.cell?_setCell_other w ⟨g, i, none⟩ ⟨g, j, none⟩ v (fun e => h (congrArg Addr.off e))
/-- the text of a mark -/
def tx (k : Nat) : List UInt8 := 109 :: dig k
/-- the first j terms marked -/
noncomputable def mixT (L : List TermM) (k j : Nat) : List TermM := (mkL tx L k).take j ++ L.drop j
theorem mixT_len (L : List TermM) (k j : Nat) (hj : j ≤ L.length) : (mixT L k j).length = L.length := by
 simp [mixT, mkL_len]; omega
theorem mixT_at (L : List TermM) (k j : Nat) (hj : j < L.length) : (mixT L k j).getD j default = L.getD j default := by
 simp [mixT, List.getD, mkL_len, List.getElem?_append, Nat.min_eq_left (Nat.le_of_lt hj)]
theorem mixT_step (L : List TermM) (k j : Nat) (hj : j < L.length) : mixT L k (j + 1) = (mixT L k j).set j (mkT tx (L.getD j default) (offs L k j)) := by
 have h1 : j < (mkL tx L k).length := by rw [mkL_len]; exact hj
 have h2 := mkL_get tx L k j hj
 rw [getD_at h1] at h2
 have h3 : ((mkL tx L k).take j).length = j := by rw [List.length_take]; omega
 rw [mixT, List.take_succ_eq_append_getElem h1, h2, mixT, List.set_append_right _ _ (by omega), h3, Nat.sub_self]
 conv => rhs; rw [List.drop_eq_getElem_cons hj]
 rw [List.set_cons_zero, List.append_assoc]
 rfl
theorem mixT_zero (L : List TermM) (k : Nat) : mixT L k 0 = L := by simp [mixT]
theorem mixT_all (L : List TermM) (k : Nat) : mixT L k L.length = mkL tx L k := by simp [mixT, ← mkL_len tx L k]
/-- one element written, its row too -/
theorem ot_set {T : TypeId} {n lo : Nat} {w w' : World} {v : Value} {M : List TermM} {S : List Nat} {xs xs' : List Value} {vs : Nat → Value} {Ss : Nat → List Nat} (hS : S = v.ownBlock.toList ++ (List.range M.length).flatMap Ss) (hnd : S.Nodup)
  (hj : ∀ j, j < M.length → Cells4 xs j (M.getD j default) (vs j) ∧ Bnd (M.getD j default) ∧ OT T n lo w (vs j) (M.getD j default).args (Ss j))
  {j : Nat} {t : TermM} (hlt : j < M.length) (ho : w'.ownsRow lo T 4 v M.length xs') (hold : ∀ i, i < j * 4 ∨ j * 4 + 4 ≤ i → xs'[i]? = xs[i]?) (hnew : Cells4 xs' j t (vs j)) (hb : Bnd t)
  (hc : Chg (v.ownBlock.toList ++ Ss j) w w') (hot : OT T n lo w' (vs j) t.args (Ss j)) : OT T (n + 1) lo w' v (M.set j t) S := by
 refine ⟨xs', vs, Ss, by rw [List.length_set]; exact ho, by rw [List.length_set]; exact hS, hnd, fun i hi => ?_⟩
 rw [List.length_set] at hi
 by_cases e : i = j
 ·subst e
  have : (M.set i t).getD i default = t := by simp [List.getD, hi]
  rw [this]
  exact ⟨hnew, hb, hot⟩
 ·have : (M.set j t).getD i default = M.getD i default := by simp [List.getD, List.getElem?_set_ne (Ne.symm e)]
  rw [this]
  obtain ⟨⟨a, b, c, d⟩, h2, h3⟩ := hj i hi
  refine ⟨⟨?_, ?_, ?_, ?_⟩, h2, h3.chg hc (fun q hq hm => ?_)⟩
  ·rw [hold _ (by omega)]; exact a
  ·rw [hold _ (by omega)]; exact b
  ·rw [hold _ (by omega)]; exact c
  ·rw [hold _ (by omega)]; exact d
  ·rw [hS] at hnd
   obtain ⟨_, n2, n3⟩ := List.nodup_append.1 hnd
   rcases List.mem_append.1 hm with hm | hm
   ·exact n3 q hm q (List.mem_flatMap.2 ⟨i, by simpa using hi, hq⟩) rfl
   ·have h4 := (List.pairwise_flatMap.1 n2).2
    have h5 : ∀ a b, a < b → b < M.length → ∀ x, x ∈ Ss a → x ∉ Ss b := by
     intro a b hab hbl x hx hx2
     have := (List.pairwise_iff_getElem.1 h4) a b (by simp; omega) (by simpa using hbl) hab
     simp only [List.getElem_range] at this
     exact this x hx x hx2 rfl
    rcases Nat.lt_or_gt_of_ne e with h6 | h6
    ·exact h5 i j h6 hlt q hq hm
    ·exact h5 j i h6 hi q hm hq
/-- laws.markTermS, at rows of one's own of at most this depth -/
def MkS (n : Nat) : Prop := ∀ (L : List TermM) (v : Value) (S : List Nat) (w : World) (lo k : Nat), OT 34 n lo w v L S → k + 3 * sizes L ≤ 1073741824 →
 Calls Tryz.prog 16 #[v, .int .i64 k] w fun e w' => e = .returned (.int .i64 ((k + 3 * sizes L : Nat) : Int)) ∧ OT 34 n lo w' v (mkL tx L k) S ∧ Chg S w w'
set_option maxRecDepth 20000 in
set_option maxHeartbeats 2000000 in
theorem mkS_step {n : Nat} (hS : ∀ k, n = k + 1 → MkS k) : MkS n := by
 intro L v S w lo k h hk
 cases n with
 | zero => exact h.elim
 | succ n =>
 have HS := Lib.hid (hS n rfl)
 obtain ⟨N, hN⟩ : ∃ N, N = L.length := ⟨_, rfl⟩
 have HN := Lib.hid hN
 obtain ⟨A, c, rfl⟩ := OT.shape h
 have hNl : N ≤ 1073741824 := by have := sizes_len L; omega
 rw [← hN] at h ⊢
 have HH := Lib.hid h
 clear h hS hN
 go_enter Tryz.func16, Tryz.ntmps16
 go_wp2
 go_loopw [1, 5] (fun v i wr => ∃ j : Nat, j ≤ N ∧ i = .int .i64 j ∧ v = .int .i64 ((offs L k j : Nat) : Int) ∧ Hid (OT 34 (n + 1) lo wr (.slice A N c) (mixT L k j) S) ∧ Chg S w wr) (fun _ i _ => N - (intOf i).toNat)
 case atStart => exact ⟨0, Nat.zero_le _, rfl, by simp [offs, sizes], Lib.hid (by rw [mixT_zero]; exact HH.out), Chg.refl _ _⟩
 case round =>
  obtain ⟨j, hj, rfl, rfl, HO, hchg⟩ := hrel
  by_cases hlt : j < N
  ·have hlt2 : j < L.length := by have := HN.out; omega
   obtain ⟨xs, vs, Ss, ho, hS, hnd, hjj⟩ := HO.out
   have hml := mixT_len L k j (by omega)
   rw [hml, ← HN.out] at ho
   have hxs : xs.length = N * 4 := ho.1
   obtain ⟨g, cap, hv, hlog, hgw⟩ := own_shape ho (by intro e; rw [e] at hxs; simp at hxs; omega)
   simp only [Value.slice.injEq] at hv
   obtain ⟨rfl, -, rfl⟩ := hv
   obtain ⟨hcl, hbd, hot⟩ := hjj j (by omega)
   rw [mixT_at L k j hlt2] at hcl hbd hot
   have hoff : offs L k (j + 1) = offs L k j + 3 * size (L.getD j default) := offs_succ L k j hlt2
   have hoffle : offs L k j + 3 * size (L.getD j default) ≤ 1073741824 := by
    have h1 := offs_le hlt2 (k := k)
    omega
   obtain ⟨t, ht⟩ : ∃ t, t = L.getD j default := ⟨_, rfl⟩
   rw [← ht] at hcl hbd hot hoff hoffle
   have hst : 3 * size t = 3 + 3 * sizes t.args := by rw [← t.eta, size_mk]; simp only [TermM.args]; omega
   obtain ⟨p, hp⟩ : ∃ p, p = offs L k j := ⟨_, rfl⟩
   rw [← hp] at hoff hoffle ⊢
   have hp30 : p ≤ 1073741821 := by omega
   have hns : ∃ n', n = n' + 1 := by
    cases n with
    | zero => exact hot.elim
    | succ n => exact ⟨n, rfl⟩
   obtain ⟨A3, c3, hsl⟩ : ∃ A c, vs j = .slice A t.args.length c := by
    obtain ⟨n', rfl⟩ := hns
    exact OT.shape hot
   obtain ⟨c0, c1, c2, c3'⟩ := hcl
   have hgs : ∀ q ∈ Ss j, q ≠ g := by
    intro q hq e
    rw [hS] at hnd
    exact (List.nodup_append.1 hnd).2.2 g (by simp [Value.ownBlock]) q (List.mem_flatMap.2 ⟨j, by simp; omega, hq⟩) e.symm
   have hsub : ∀ q ∈ [g] ++ Ss j, q ∈ S := by
    intro q hq
    rw [hS]
    rcases List.mem_append.1 hq with hq | hq
    ·exact List.mem_append.2 (.inl (by simpa [Value.ownBlock] using hq))
    ·exact List.mem_append.2 (.inr (List.mem_flatMap.2 ⟨j, by simp; omega, hq⟩))
   obtain ⟨⟨v0, hw0⟩, hf0⟩ := own_get ho (i := j * 4) (by omega)
   obtain ⟨⟨v1, hw1⟩, hf1⟩ := own_get ho (i := j * 4 + 1) (by omega)
   obtain ⟨⟨v2, hw2⟩, hf2⟩ := own_get ho (i := j * 4 + 2) (by omega)
   have hw3 : wr.cell? ⟨g, j * 4 + 3, none⟩ = some (.slice A3 t.args.length c3) := by rw [ho.cellAt (j * 4 + 3) (by omega), c3', hsl]
   have HOWN := Lib.hid ho
   have HALL := Lib.hid (And.intro hS (And.intro hnd hjj))
   have HOT := Lib.hid hot
   have HB := Lib.hid hbd
   have HT := Lib.hid ht
   have HSL := Lib.hid hsl
   have HP := Lib.hid hp
   have HC := Lib.hid (And.intro c0 (And.intro c1 (And.intro c2 c3')))
   have HM := Lib.hid hml
   have HOF := Lib.hid hoff
   have HSB := Lib.hid hsub
   have HGS := Lib.hid hgs
   have HST := Lib.hid hst
   obtain ⟨q, hq⟩ : ∃ q, q = t.args.length := ⟨_, rfl⟩
   rw [← hq] at hw3
   have HQ := Lib.hid hq
   have HXS := Lib.hid hxs
   clear ho hS hnd hjj hot hbd ht hsl hp c0 c1 c2 c3' hml hoff hsub hgs hst hq hxs HO
   go_wp2_with fail
   refine (strl.mark_any (p + 1) (by omega) _).mono ?_
   rintro e w1 ⟨rfl, hb1⟩
   have hb1' := hb1
   obtain ⟨hcc, hff⟩ := bcell hb1
   have hg1 : g < (wr.setCell ⟨g, j * 4, none⟩ (.int .i64 p)).heap.size := by simpa [World.setCell] using hgw
   have HB1 := Lib.hid hb1
   have k1 : w1.cell? ⟨g, j * 4 + 1, none⟩ = some v1 := by rw [hcc _ _ hg1, far_cell (by omega)]; exact hw1
   have k2 : w1.cell? ⟨g, j * 4 + 2, none⟩ = some v2 := by rw [hcc _ _ hg1, far_cell (by omega)]; exact hw2
   have k3 : w1.cell? ⟨g, j * 4 + 3, none⟩ = some (.slice A3 q c3) := by rw [hcc _ _ hg1, far_cell (by omega)]; exact hw3
   have f1 : w1.frozen? ⟨g, j * 4 + 1, none⟩ = false := by rw [hff _ _ hg1, World.frozen?_setCell]; exact hf1
   have f2 : w1.frozen? ⟨g, j * 4 + 2, none⟩ = false := by rw [hff _ _ hg1, World.frozen?_setCell]; exact hf2
   have HCH : Hid (Chg [g] wr w1) := Lib.hid ((Chg.set (by simp) _).trans (Chg.of_below hb1))
   have HO1 := Lib.hid (own_below (setCell_own HOWN.out (j * 4) (.int .i64 p)) hb1)
   clear hb1 hb1' hcc hff
   go_wp2_with fail
   have hcast : (((p + 3 : Nat) : Int)) = (p : Int) + 1 + 1 + 1 := by omega
   have HO2 := Lib.hid (setCell_own (setCell_own HO1.out (j * 4 + 1) (.string (bstr (109 :: dig (p + 1))))) (j * 4 + 2) (.int .i64 ((p : Int) + 1 + 1)))
   have HCH2 : Hid (Chg [g] wr ((w1.setCell ⟨g, j * 4 + 1, none⟩ (.string (bstr (109 :: dig (p + 1))))).setCell ⟨g, j * 4 + 2, none⟩ (.int .i64 ((p : Int) + 1 + 1)))) := Lib.hid (chg_set1 (chg_set1 HCH.out _ _) _ _)
   have hC := HS.out t.args (vs j) (Ss j) _ lo (p + 3) (HOT.out.chg HCH2.out (fun q hq => by simpa using HGS.out q hq)) (by have := HST.out; omega)
   rw [HSL.out, ← HQ.out, hcast] at hC
   refine hC.mono ?_
   rintro e w4 ⟨rfl, h4, hc4⟩
   have H4 := Lib.hid h4
   have HC4 := Lib.hid hc4
   have hlast : ((p + 3 + 3 * sizes t.args : Nat) : Int) = ((offs L k (j + 1) : Nat) : Int) := by have h1 := HOF.out; have h2 := HST.out; omega
   clear h4 hc4 hC
   go_wp2
   go_roundw
   case rel =>
    obtain ⟨hS, hnd, hjj⟩ := HALL.out
    obtain ⟨c0, c1, c2, c3'⟩ := HC.out
    have hxs := HXS.out
    have hchg4 : Chg ([g] ++ Ss j) wr w4 := (HCH2.out.mono (fun q hq => List.mem_append.2 (.inl hq))).trans (HC4.out.mono (fun q hq => List.mem_append.2 (.inr hq)))
    have hmk : mkT tx t p = .mk (p : Int) (109 :: dig (p + 1)) ((p + 2 : Nat) : Int) (mkL tx t.args (p + 3)) := by have h := mkT_mk tx t.op t.name t.sort t.args p; rw [t.eta] at h; exact h
    have hd : (dig (p + 1)).length ≤ 20 := dig_le64 (by omega)
    refine ⟨j + 1, by omega, by go_num, hlast ▸ rfl, Lib.hid ?_, hchg.trans (hchg4.mono HSB.out)⟩
    rw [mixT_step L k j hlt2, ← HT.out, ← HP.out]
    have hown := HC4.out.own HO2.out (by intro q hq; simp [Value.ownBlock] at hq; subst hq; intro hm; exact HGS.out _ hm rfl)
    have hml := HM.out
    have hN := HN.out
    refine ot_set hS hnd hjj (by omega) (by rw [hml, ← hN]; exact hown) (fun i hi => ?_) ?_ ?_ hchg4 ?_
    ·rw [List.getElem?_set_ne (by omega), List.getElem?_set_ne (by omega), List.getElem?_set_ne (by omega)]
    ·rw [hmk]
     refine ⟨?_, ?_, ?_, ?_⟩
     ·rw [List.getElem?_set_ne (by omega), List.getElem?_set_ne (by omega), List.getElem?_set_self (by omega)]; rfl
     ·rw [List.getElem?_set_ne (by omega), List.getElem?_set_self (by simp; omega)]; rfl
     ·rw [List.getElem?_set_self (by simp; omega)]; simp only [TermM.sort]; congr 2
     ·rw [List.getElem?_set_ne (by omega), List.getElem?_set_ne (by omega), List.getElem?_set_ne (by omega)]; exact c3'
    ·rw [hmk]
     refine ⟨?_, ?_, ?_⟩
     ·simp only [TermM.name, List.length_cons]; unfold maxLen; omega
     ·simp only [TermM.op, I64]; omega
     ·simp only [TermM.sort, I64]; omega
    ·rw [hmk, HSL.out, ← HQ.out]; exact H4.out
   case measure => simp [intOf]; omega
  ·obtain rfl : j = N := by omega
   have HE : Hid (OT 34 (n + 1) lo wr (.slice A j c) (mkL tx L k) S ∧ offs L k j = k + 3 * sizes L) := Lib.hid (by
    have h1 := HO.out
    have h2 := HN.out
    refine ⟨by rw [← mixT_all, ← h2]; exact h1, ?_⟩
    rw [offs, h2, List.take_length])
   go_wp2
   go_ret
   exact ⟨ret_int (by rw [HE.out.2]), HE.out.1, hchg⟩
theorem markTermS_any : ∀ n, MkS n
 | 0 => mkS_step (fun k h => by omega)
 | n + 1 => mkS_step (fun k h => Nat.succ.inj h ▸ markTermS_any n)
/-- laws.markTerm: marks the arguments' nodes alone -/
theorem markTerm_any {n : Nat} (op : Int) (l : List UInt8) (s : Int) (L : List TermM) (v : Value) (S : List Nat) (w : World) {lo k : Nat} (h : OT 34 n lo w v L S) (hk : k + 3 * sizes L ≤ 1073741824) :
  Calls Tryz.prog 17 #[.agg #[.int .i64 op, .string (bstr l), .int .i64 s, v], .int .i64 k] w fun e w' => e = .returned (.int .i64 ((k + 3 * sizes L : Nat) : Int)) ∧ OT 34 n lo w' v (mkL tx L k) S ∧ Chg S w w' := by
 have HM := Lib.hid (fun W (hW : Below w.heap.size w W) => markTermS_any n L v S W lo k (h.below hW) hk)
 obtain ⟨A, c, rfl⟩ : ∃ A c, v = .slice A L.length c := by
  cases n with
  | zero => exact h.elim
  | succ n => exact OT.shape h
 obtain ⟨q, hq⟩ : ∃ q, q = L.length := ⟨_, rfl⟩
 rw [← hq] at HM ⊢
 clear h hq
 go_enter Tryz.func17, Tryz.ntmps17
 go_wp2_with fail
 refine (HM.out _ ((Below.refl _ _).alloc (Nat.le_refl _) _)).mono ?_
 rintro e w1 ⟨rfl, h1, hc1⟩
 have H1 := Lib.hid (And.intro h1 hc1)
 clear h1 hc1
 go_wp2
 go_ret
 exact ⟨rfl, H1.out.1, (Chg.of_below ((Below.refl _ _).alloc (Nat.le_refl _) _)).trans H1.out.2⟩
/-- laws.heldTermS, at terms of at most this depth -/
def HtS (n : Nat) : Prop := ∀ (L : List TermM) (v : Value) (w : World) (lo k : Nat), HasTs n lo w v (mkL tx L k) → k + 3 * sizes L ≤ 1073741824 →
 Calls Tryz.prog 47 #[v, .int .i64 k] w fun e w' => e = .returned (.int .i64 ((k + 3 * sizes L : Nat) : Int)) ∧ Below w.heap.size w w'
set_option maxRecDepth 20000 in
set_option maxHeartbeats 2000000 in
theorem htS_step {n : Nat} (hS : ∀ k, n = k + 1 → HtS k) : HtS n := by
 intro L v w lo k h hk
 obtain ⟨N, hN⟩ : ∃ N, N = L.length := ⟨_, rfl⟩
 obtain ⟨A, c, rfl, h⟩ := HasR.shape (n := N) h (by rw [mkL_len]; exact hN.symm)
 have hNl : N ≤ 1073741824 := by have := sizes_len L; omega
 have HN := Lib.hid hN
 have HH := Lib.hid h
 have HS := Lib.hid hS
 clear h hN hS
 go_enter Tryz.func47, Tryz.ntmps47
 go_wp2
 go_loopw [1, 5] (fun v i wr => ∃ j : Nat, j ≤ N ∧ i = .int .i64 j ∧ v = .int .i64 ((offs L k j : Nat) : Int) ∧ Below w.heap.size w wr) (fun _ i _ => N - (intOf i).toNat)
 case atStart => exact ⟨0, Nat.zero_le _, rfl, by simp [offs, sizes], Below.refl _ _⟩
 case round =>
  obtain ⟨j, hj, rfl, rfl, hbel⟩ := hrel
  by_cases hlt : j < N
  ·have hlt2 : j < L.length := by have := HN.out; omega
   obtain ⟨k', g, o, A2, c2, hnk, rfl, _, hg, hc0, hc1, hc2, hc3, hh, _⟩ := term_at HH.out hlt
   rw [mkL_get tx L k j hlt2] at hc0 hc1 hc2 hc3 hh
   have hoff : offs L k (j + 1) = offs L k j + 3 * size (L.getD j default) := offs_succ L k j hlt2
   have hoffle : offs L k j + 3 * size (L.getD j default) ≤ 1073741824 := by
    have h1 := offs_le hlt2 (k := k)
    omega
   obtain ⟨t, ht⟩ : ∃ t, t = L.getD j default := ⟨_, rfl⟩
   rw [← ht] at hc0 hc1 hc2 hc3 hh hoff hoffle
   have hst : 3 * size t = 3 + 3 * sizes t.args := by rw [← t.eta, size_mk]; simp only [TermM.args]; omega
   obtain ⟨p, hp⟩ : ∃ p, p = offs L k j := ⟨_, rfl⟩
   rw [← hp] at hc0 hc1 hc2 hc3 hh hoff hoffle ⊢
   have hmk : mkT tx t p = .mk (p : Int) (109 :: dig (p + 1)) ((p + 2 : Nat) : Int) (mkL tx t.args (p + 3)) := by have h := mkT_mk tx t.op t.name t.sort t.args p; rw [t.eta] at h; exact h
   rw [hmk] at hc0 hc1 hc2 hc3 hh
   simp only [op_mk, name_mk, sort_mk, args_mk] at hc0 hc1 hc2 hc3 hh
   have hcast : (((p + 3 : Nat) : Int)) = (p : Int) + 1 + 1 + 1 := by omega
   have hcast2 : (((p + 2 : Nat) : Int)) = (p : Int) + 1 + 1 := by omega
   rw [hcast2] at hc2
   have hp30 : p ≤ 1073741821 := by omega
   have kk : ∀ x, w.cell? ⟨g, x, none⟩ = wr.cell? ⟨g, x, none⟩ := fun x => (hbel.cell (p := ⟨g, x, none⟩) hg).symm
   rw [kk] at hc0 hc1 hc2 hc3
   have hg2 : g < wr.heap.size := Nat.lt_of_lt_of_le hg hbel.size
   have hh2 := hh.below (Nat.le_refl _) hbel
   have HC := Lib.hid (fun W (hW : Below wr.heap.size wr W) => (hcast ▸ HS.out k' hnk t.args _ W lo (p + 3) (hh2.below (Nat.le_refl _) hW) (by omega) :
    Calls Tryz.prog 47 #[.slice A2 (mkL tx t.args (p + 3)).length c2, .int .i64 ((p : Int) + 1 + 1 + 1)] W fun e w' => e = .returned (.int .i64 ((p + 3 + 3 * sizes t.args : Nat) : Int)) ∧ Below W.heap.size W w'))
   obtain ⟨q, hq⟩ : ∃ q, q = (mkL tx t.args (p + 3)).length := ⟨_, rfl⟩
   rw [← hq] at HC hc3
   have hlast : ((p + 3 + 3 * sizes t.args : Nat) : Int) = ((offs L k (j + 1) : Nat) : Int) := by omega
   rw [hlast] at HC
   have HLN : Hid (0 ≤ ((offs L k (j + 1) : Nat) : Int) ∧ ((offs L k (j + 1) : Nat) : Int) ≤ 1073741824) := Lib.hid (by omega)
   obtain ⟨z, hz⟩ : ∃ z, z = ((offs L k (j + 1) : Nat) : Int) := ⟨_, rfl⟩
   rw [← hz] at HC HLN
   have HZ := Lib.hid hz
   have hz1 := HLN.out
   obtain ⟨hz1, hz2⟩ := hz1
   clear hh hh2 hq ht hp hmk hst hoff hz kk hlast hcast hcast2
   go_wp2_with fail
   go_region_held3 (fun w' => (w'.cell? ⟨g, o + j * 4 + 1, none⟩ = some (.string (bstr (109 :: dig (p + 1)))) ∧ w'.cell? ⟨g, o + j * 4 + 2, none⟩ = some (.int .i64 ((p : Int) + 1 + 1)) ∧ w'.cell? ⟨g, o + j * 4 + 3, none⟩ = some (.slice A2 q c2)) ∧ Below wr.heap.size wr w')
    (first | (refine ⟨⟨?_, ?_, ?_⟩, (Below.refl _ _).drew⟩ <;> assumption) | (go_split_ands; exact keep_three3 (g := g) ⟨⟨by assumption, by assumption, by assumption⟩, by assumption⟩ hg2 (by assumption)))
    ((go_at_call 46; refine (strl.mark_any (p + 1) (by omega) _).mono ?_; rintro e w1 ⟨rfl, hb1⟩))
   go_split_ands
   have hbw1 : Below wr.heap.size wr w1 := by assumption
   go_wp2_with fail
   refine (HC.out _ hbw1).mono ?_
   rintro e w2 ⟨rfl, hb2⟩
   have hbw2 := hbw1.trans (hb2.mono hbw1.size)
   clear hb2
   go_wp2
   go_roundw
   case rel => exact ⟨j + 1, by omega, by go_num, by rw [← HZ.out], hbel.trans (hbw2.mono hbel.size)⟩
   case measure => simp [intOf]; omega
  ·obtain rfl : j = N := by omega
   have HE : Hid (offs L k j = k + 3 * sizes L) := Lib.hid (by
    have h2 := HN.out
    rw [offs, h2, List.take_length])
   go_wp2
   go_ret
   exact ⟨ret_int (by rw [HE.out]), hbel⟩
theorem heldTermS_any : ∀ n, HtS n
 | 0 => htS_step (fun k h => by omega)
 | n + 1 => htS_step (fun k h => Nat.succ.inj h ▸ heldTermS_any n)
end Go.Proofs.YtkkmjaggebjcbaaGreat.termu
/-
 CONTRACTS OF THE LAWS' OWN FUNCTIONS ON OPERATORS AND SIGNATURES: toOpS, toSignature.
-/
namespace Go.Proofs.YtkkmjaggebjcbaaGreat.sigu
open Go.ChangeShapes Go.WideShapes Go.ChangeAt Go.RowKit
open mem split strl join subs setm sortp sorti rowl sigm sigs sigt

theorem setCell_own5 {w : World} {g n cap base : Nat} {e : TypeId} {xs : List Value} (h : w.ownsRow base e 5 (.slice (some ⟨g, 0, none⟩) n cap) n xs) (j : Nat) (u0 u1 u2 u3 u4 : Value) :
  (((((w.setCell ⟨g, j, none⟩ u0).setCell ⟨g, j + 1, none⟩ u1).setCell ⟨g, j + 2, none⟩ u2).setCell ⟨g, j + 3, none⟩ u3).setCell ⟨g, j + 4, none⟩ u4).ownsRow base e 5 (.slice (some ⟨g, 0, none⟩) n cap) n (((((xs.set j u0).set (j + 1) u1).set (j + 2) u2).set (j + 3) u3).set (j + 4) u4) :=
 setCell_own (setCell_own (setCell_own (setCell_own (setCell_own h j u0) (j + 1) u1) (j + 2) u2) (j + 3) u3) (j + 4) u4
theorem info_op : (Tryz.prog.info? 113).map (fun i => (i.zero, i.size, i.bytes)) = some (some (.agg #[.string { data := #[] }, .slice none 0 0, .bool false, .bool false, .int .i64 0]), 5, 56) := by kernel_rfl
end Go.Proofs.YtkkmjaggebjcbaaGreat.sigu
/-
 THE LAWS' COUNT OF A SIGNATURE, IN TOTAL.
-/
namespace Go.Proofs.YtkkmjaggebjcbaaGreat.tmq
open Go.ChangeShapes Go.WideShapes Go.ChangeAt Go.RowKit
open mem dec split strl join subs setm sortp sorti rowl sigm sigs sigt sigu

def cntD (D : List (List Int × Int)) : Nat := D.length + (D.map fun d => d.1.length).sum
def cntO (O : List OpM) : Nat := O.length + (O.map fun o => o.name.length + cntD o.decls).sum
theorem sum_take {α : Type} [Inhabited α] (f : α → Nat) {L : List α} {k : Nat} (h : k < L.length) : ((L.take (k + 1)).map f).sum = ((L.take k).map f).sum + f (L.getD k default) := by
 rw [List.take_succ_eq_append_getElem h, List.map_append, List.sum_append]
 simp [List.getD, List.getElem?_eq_getElem h]
theorem sum_mem {α : Type} (f : α → Nat) : ∀ {L : List α} {a : α}, a ∈ L → f a ≤ (L.map f).sum
 | b :: L, a, h => by
  rw [List.map_cons, List.sum_cons]
  rcases List.mem_cons.1 h with rfl | h
  ·omega
  ·have := sum_mem f h
   omega
theorem getD_mem {α : Type} [Inhabited α] {L : List α} {i : Nat} (h : i < L.length) : L.getD i default ∈ L := by rw [List.getD_eq_getElem?_getD, List.getElem?_eq_getElem h]; exact List.getElem_mem _
theorem smO_of {O : List OpM} (h : cntO O ≤ 1048576) : SmO O := by
 unfold cntO at h
 refine ⟨by omega, fun j hj => ?_⟩
 have hm : O.getD j default ∈ O := getD_mem hj
 have h1 : (O.getD j default).name.length + cntD (O.getD j default).decls ≤ _ := sum_mem (fun o : OpM => o.name.length + cntD o.decls) hm
 have h2 : cntD (O.getD j default).decls ≤ 1048576 := by omega
 unfold cntD at h2
 refine ⟨by omega, fun i hi => ?_⟩
 have hm2 : (O.getD j default).decls.getD i default ∈ (O.getD j default).decls := getD_mem hi
 have h3 : ((O.getD j default).decls.getD i default).1.length ≤ _ := sum_mem (fun d : List Int × Int => d.1.length) hm2
 omega
/-- laws.szIntS -/
theorem tszIntS_any (A : Option Addr) (n c : Nat) (hl : n ≤ 9223372036854775807) (w : World) (m : Int) (hm : 0 ≤ m) (hm2 : m ≤ 1048576) :
  Calls Tryz.prog 178 #[.slice A n c, .int .i64 m] w fun e w' => ∃ r : Int, e = .returned (.int .i64 r) ∧ (0 ≤ r → r + (n : Int) ≤ m) ∧ -1 ≤ r ∧ r ≤ 1048576 ∧ w = w' := by
 by_cases hneg : m - (n : Int) < 0
 ·go_enter Tryz.func178, Tryz.ntmps178
  go_wp2
  go_ret
  exact ⟨-1, rfl, fun h => by omega, by omega, by omega, rfl⟩
 ·go_enter Tryz.func178, Tryz.ntmps178
  go_wp2
  go_ret
  exact ⟨_, rfl, fun h => by omega, by omega, by omega, rfl⟩
/-- laws.szDecl -/
theorem tszDecl_any (A : Option Addr) (n c : Nat) (x : Int) (hl : n ≤ 9223372036854775807) (w : World) (m : Int) (hm : 0 ≤ m) (hm2 : m ≤ 1048576) :
  Calls Tryz.prog 152 #[.agg #[.slice A n c, .int .i64 x], .int .i64 m] w fun e w' => ∃ r : Int, e = .returned (.int .i64 r) ∧ (0 ≤ r → r + (n : Int) ≤ m) ∧ -1 ≤ r ∧ r ≤ 1048576 ∧ Below w.heap.size w w' := by
 go_enter Tryz.func152, Tryz.ntmps152
 go_wp2_with fail
 refine (tszIntS_any A n c hl _ m hm hm2).mono ?_
 rintro e w1 ⟨r, rfl, hr, hr1, hr2, rfl⟩
 by_cases hneg : r < 0
 ·go_wp2
  go_ret
  exact ⟨-1, rfl, fun h => by omega, by omega, by omega, (Below.refl _ _).alloc (Nat.le_refl _) _⟩
 ·go_wp2
  go_ret
  exact ⟨r, rfl, hr, hr1, hr2, (Below.refl _ _).alloc (Nat.le_refl _) _⟩
/-- laws.szDeclS -/
theorem tszDeclS_any (D : List (List Int × Int)) (v : Value) (w : World) {lo : Nat} (h : HasD lo w v D) (m : Int) (hm : 0 ≤ m) (hm2 : m ≤ 1048576) :
  Calls Tryz.prog 111 #[v, .int .i64 m] w fun e w' => ∃ r : Int, e = .returned (.int .i64 r) ∧ (0 ≤ r → r + (cntD D : Int) ≤ m) ∧ -1 ≤ r ∧ r ≤ 1048576 ∧ Below w.heap.size w w' := by
 obtain ⟨n, hn⟩ : ∃ n, n = D.length := ⟨_, rfl⟩
 obtain ⟨A, c, rfl, h⟩ := HasR.shape h hn.symm
 have hl := h.len.2.1
 have HH := Lib.hid h
 have HN := Lib.hid hn
 clear h hn
 by_cases hneg : m - (n : Int) < 0
 ·go_enter Tryz.func111, Tryz.ntmps111
  go_wp2
  go_ret
  exact ⟨-1, rfl, fun h => by omega, by omega, by omega, Below.refl _ _⟩
 ·have hnm : (n : Int) ≤ m := by omega
  go_enter Tryz.func111, Tryz.ntmps111
  go_wp2
  go_loopw [1, 5] (fun v i wr => ∃ (k : Nat) (r : Int), k ≤ n ∧ i = .int .i64 k ∧ v = .int .i64 r ∧ 0 ≤ r ∧ r ≤ 1048576 ∧ Hid (r + (n : Int) + ((((D.take k).map fun d => d.1.length).sum : Nat) : Int) ≤ m) ∧ Below w.heap.size w wr) (fun _ i _ => n - (intOf i).toNat)
  case atStart => exact ⟨0, _, Nat.zero_le _, rfl, rfl, by omega, by omega, Lib.hid (by simp), Below.refl _ _⟩
  case round =>
   obtain ⟨k, r, hk, rfl, rfl, hr0, hr1, HS, hbel⟩ := hrel
   by_cases hlt : k < n
   ·obtain ⟨g, o, A2, c2, rfl, _, hg, hc0, hc1, hh, _, _⟩ := decl_at HH.out hlt
    have hl2 := hh.has.len
    rw [ivs_len] at hl2
    rw [← hbel.cell (p := ⟨g, o + k * 2, none⟩) hg] at hc0
    rw [← hbel.cell (p := ⟨g, o + k * 2 + 1, none⟩) hg] at hc1
    have HSN : Hid (∀ r2 : Int, r2 + (((D.getD k default).1.length : Nat) : Int) ≤ r → r2 + (n : Int) + ((((D.take (k + 1)).map fun d => d.1.length).sum : Nat) : Int) ≤ m) := Lib.hid (fun r2 h2 => by
     have h3 := HS.out
     rw [sum_take (fun d : List Int × Int => d.1.length) (by have := HN.out; omega)]
     omega)
    obtain ⟨n2, hn2⟩ : ∃ n2, n2 = (D.getD k default).1.length := ⟨_, rfl⟩
    obtain ⟨x, hx⟩ : ∃ x, x = (D.getD k default).2 := ⟨_, rfl⟩
    rw [← hn2] at hc0 hl2 HSN
    rw [← hx] at hc1
    have hl3 := hl2.2
    clear hh hl2 hn2 hx
    go_wp2_with fail
    refine (tszDecl_any A2 n2 c2 x hl3 _ r hr0 hr1).mono ?_
    rintro e w2 ⟨r2, rfl, hs, hs1, hs2, hb2⟩
    by_cases hneg2 : r2 < 0
    ·go_wp2
     go_ret
     exact ⟨-1, rfl, fun h => by omega, by omega, by omega, hbel.trans (hb2.mono hbel.size)⟩
    ·have HSN2 := Lib.hid (HSN.out r2 (hs (by omega)))
     clear hs
     go_wp2
     go_roundw
     case rel => exact ⟨k + 1, r2, by omega, by go_num, rfl, by omega, hs2, HSN2, hbel.trans (hb2.mono hbel.size)⟩
     case measure => simp [intOf]; omega
   ·obtain rfl : k = n := by omega
    go_wp2
    go_ret
    exact ⟨r, rfl, fun _ => by
     have h1 := HS.out
     have h2 := HN.out
     rw [List.take_of_length_le (by omega)] at h1
     unfold cntD
     omega, by omega, hr1, hbel⟩
/-- laws.szOp -/
theorem tszOp_any (l : List UInt8) (hl : l.length ≤ maxLen) (D : List (List Int × Int)) (v : Value) (a b : Bool) (u : Int) (w : World) {lo : Nat} (h : HasD lo w v D) (m : Int) (hm : 0 ≤ m) (hm2 : m ≤ 1048576) :
  Calls Tryz.prog 64 #[.agg #[.string (bstr l), v, .bool a, .bool b, .int .i64 u], .int .i64 m] w fun e w' => ∃ r : Int, e = .returned (.int .i64 r) ∧ (0 ≤ r → r + (l.length : Int) + (cntD D : Int) ≤ m) ∧ -1 ≤ r ∧ r ≤ 1048576 ∧ Below w.heap.size w w' := by
 have hsz := bstr_size l
 have HSZ := Lib.hid (fun W (hW : Below w.heap.size w W) m h1 h2 => tszDeclS_any D v W (h.below RD_steady (Nat.le_refl _) hW) m h1 h2)
 obtain ⟨A, c, rfl, h⟩ := HasR.shape h rfl
 obtain ⟨n, hn⟩ : ∃ n, n = D.length := ⟨_, rfl⟩
 rw [← hn] at HSZ ⊢
 unfold maxLen at hl
 clear h hn
 by_cases hneg : m - (l.length : Int) < 0
 ·go_enter Tryz.func64, Tryz.ntmps64
  go_wp2
  go_ret
  exact ⟨-1, rfl, fun h => by omega, by omega, by omega, (Below.refl _ _).alloc (Nat.le_refl _) _⟩
 ·go_enter Tryz.func64, Tryz.ntmps64
  go_wp2_with fail
  refine (HSZ.out _ ((Below.refl _ _).alloc (Nat.le_refl _) _) _ (by omega) (by omega)).mono ?_
  rintro e w1 ⟨r, rfl, hr, hr1, hr2, hb1⟩
  have hbw : Below w.heap.size w w1 := ((Below.refl _ _).alloc (Nat.le_refl _) _).trans (hb1.mono (by simp))
  clear hb1
  by_cases hneg2 : r < 0
  ·go_wp2
   go_ret
   exact ⟨-1, rfl, fun h => by omega, by omega, by omega, hbw⟩
  ·go_wp2
   go_ret
   exact ⟨r, rfl, fun h => (by have := hr h; omega), hr1, hr2, hbw⟩
/-- laws.szOpS -/
theorem tszOpS_any (O : List OpM) (v : Value) (w : World) {lo : Nat} (h : HasO lo w v O) (m : Int) (hm : 0 ≤ m) (hm2 : m ≤ 1048576) :
  Calls Tryz.prog 30 #[v, .int .i64 m] w fun e w' => ∃ r : Int, e = .returned (.int .i64 r) ∧ (0 ≤ r → r + (cntO O : Int) ≤ m) ∧ -1 ≤ r ∧ r ≤ 1048576 ∧ Below w.heap.size w w' := by
 obtain ⟨n, hn⟩ : ∃ n, n = O.length := ⟨_, rfl⟩
 obtain ⟨A, c, rfl, h⟩ := HasR.shape h hn.symm
 have hl := h.len.2.1
 have HH := Lib.hid h
 have HN := Lib.hid hn
 clear h hn
 by_cases hneg : m - (n : Int) < 0
 ·go_enter Tryz.func30, Tryz.ntmps30
  go_wp2
  go_ret
  exact ⟨-1, rfl, fun h => by omega, by omega, by omega, Below.refl _ _⟩
 ·have hnm : (n : Int) ≤ m := by omega
  go_enter Tryz.func30, Tryz.ntmps30
  go_wp2
  go_loopw [1, 5] (fun v i wr => ∃ (k : Nat) (r : Int), k ≤ n ∧ i = .int .i64 k ∧ v = .int .i64 r ∧ 0 ≤ r ∧ r ≤ 1048576 ∧ Hid (r + (n : Int) + ((((O.take k).map fun o => o.name.length + cntD o.decls).sum : Nat) : Int) ≤ m) ∧ Below w.heap.size w wr) (fun _ i _ => n - (intOf i).toNat)
  case atStart => exact ⟨0, _, Nat.zero_le _, rfl, rfl, by omega, by omega, Lib.hid (by simp), Below.refl _ _⟩
  case round =>
   obtain ⟨k, r, hk, rfl, rfl, hr0, hr1, HS, hbel⟩ := hrel
   by_cases hlt : k < n
   ·obtain ⟨g, o, A2, c2, rfl, _, hg, hc0, hc1, hc2, hc3, hc4, hh, hnl, _⟩ := op_at HH.out hlt
    rw [← hbel.cell (p := ⟨g, o + k * 5, none⟩) hg] at hc0
    rw [← hbel.cell (p := ⟨g, o + k * 5 + 1, none⟩) hg] at hc1
    rw [← hbel.cell (p := ⟨g, o + k * 5 + 2, none⟩) hg] at hc2
    rw [← hbel.cell (p := ⟨g, o + k * 5 + 3, none⟩) hg] at hc3
    rw [← hbel.cell (p := ⟨g, o + k * 5 + 4, none⟩) hg] at hc4
    have HSN : Hid (∀ r2 : Int, r2 + (((O.getD k default).name.length : Nat) : Int) + ((cntD (O.getD k default).decls : Nat) : Int) ≤ r → r2 + (n : Int) + ((((O.take (k + 1)).map fun o => o.name.length + cntD o.decls).sum : Nat) : Int) ≤ m) := Lib.hid (fun r2 h2 => by
     have h3 := HS.out
     rw [sum_take (fun o : OpM => o.name.length + cntD o.decls) (by have := HN.out; omega)]
     omega)
    have hh2 := hh.below RD_steady (Nat.le_refl _) hbel
    obtain ⟨⟨nm, D, a, b, u⟩, hop⟩ : ∃ x, x = O.getD k default := ⟨_, rfl⟩
    rw [← hop] at hc0 hc1 hc2 hc3 hc4 HSN hh2 hnl
    have HD := Lib.hid hh2
    clear hh hh2 hop
    go_wp2_with fail
    refine (tszOp_any nm hnl D _ a b u _ HD.out r hr0 hr1).mono ?_
    rintro e w2 ⟨r2, rfl, hs, hs1, hs2, hb2⟩
    by_cases hneg2 : r2 < 0
    ·go_wp2
     go_ret
     exact ⟨-1, rfl, fun h => by omega, by omega, by omega, hbel.trans (hb2.mono hbel.size)⟩
    ·have HSN2 := Lib.hid (HSN.out r2 (hs (by omega)))
     clear hs
     go_wp2
     go_roundw
     case rel => exact ⟨k + 1, r2, by omega, by go_num, rfl, by omega, hs2, HSN2, hbel.trans (hb2.mono hbel.size)⟩
     case measure => simp [intOf]; omega
   ·obtain rfl : k = n := by omega
    go_wp2
    go_ret
    exact ⟨r, rfl, fun _ => by
     have h1 := HS.out
     have h2 := HN.out
     rw [List.take_of_length_le (by omega)] at h1
     unfold cntO
     omega, by omega, hr1, hbel⟩
/-- laws.szSignature -/
theorem tszSignature_any (P : List (List UInt8)) (Q : List (Int × Int)) (O : List OpM) (va vb vc : Value) (w : World) (h : HasG w va vb vc P Q O) :
  Calls Tryz.prog 6 #[.agg #[va, vb, vc], .int .i64 1048576] w fun e w' => ∃ r : Int, e = .returned (.int .i64 r) ∧ (0 ≤ r → (Small P ∧ Q.length ≤ 1048576) ∧ cntO O ≤ 1048576) ∧ -1 ≤ r ∧ r ≤ 1048576 ∧ Below w.heap.size w w' := by
 have HSS := Lib.hid (fun W (hW : Below w.heap.size w W) => szSorts_any P h.s.short Q _ _ W (h.below (Nat.le_refl _) hW).s.a (h.below (Nat.le_refl _) hW).s.b)
 have HSO := Lib.hid (fun W (hW : Below w.heap.size w W) m h1 h2 => tszOpS_any O vc W (h.below (Nat.le_refl _) hW).o m h1 h2)
 obtain ⟨A, ca, B, cb, C, cc, rfl, rfl, rfl, hl1, hl2, hl3, _⟩ := h.shape
 obtain ⟨n, hn⟩ : ∃ n, n = O.length := ⟨_, rfl⟩
 rw [← hn] at HSO hl3 ⊢
 clear h hn
 go_enter Tryz.func6, Tryz.ntmps6
 go_wp2_with fail
 refine (HSS.out _ ((Below.refl _ _).alloc (Nat.le_refl _) _)).mono ?_
 rintro e w1 ⟨r, rfl, hr, hr1, hr2, hb1⟩
 have hbw1 : Below w.heap.size w w1 := ((Below.refl _ _).alloc (Nat.le_refl _) _).trans (hb1.mono (by simp))
 have c2 : w1.cell? ⟨w.heap.size, 2, none⟩ = some (.slice C n cc) := by rw [hb1.cell (p := ⟨w.heap.size, 2, none⟩) (by simp)]; simp
 clear hb1
 by_cases hneg : r < 0
 ·go_wp2
  go_ret
  exact ⟨-1, rfl, fun h => by omega, by omega, by omega, hbw1⟩
 ·go_wp2_with fail
  refine (HSO.out _ hbw1 r (by omega) (by omega)).mono ?_
  rintro e w2 ⟨r2, rfl, hs, hs1, hs2, hb2⟩
  have hbw2 := hbw1.trans (hb2.mono hbw1.size)
  clear hb2
  by_cases hneg2 : r2 < 0
  ·go_wp2
   go_ret
   exact ⟨-1, rfl, fun h => by omega, by omega, by omega, hbw2⟩
  ·go_wp2
   go_ret
   exact ⟨r2, rfl, fun h => ⟨hr (by omega), by have := hs h; omega⟩, hs1, hs2, hbw2⟩
end Go.Proofs.YtkkmjaggebjcbaaGreat.tmq
