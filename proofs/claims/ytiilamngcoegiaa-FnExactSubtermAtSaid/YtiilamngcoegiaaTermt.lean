/-
  CONTRACTS OF THE LAWS' OWN FUNCTIONS ON TERMS: szTerm, toTerm, eqTerm and those of their rows.
-/
import Derived.Test.YtiilamngcoegiaaTerml
import Derived.Test.YtiilamngcoegiaaStrl
import Derived.Deep.RegionHeld3
namespace Go.Proofs.Ytiilamngcoegiaa.termt
open Go.ChangeShapes Go.WideShapes Go.ChangeAt Go.RowKit
open mem rowl trm trmv terml

/-- laws.szTermS, at terms of at most this depth -/
def SzS (n : Nat) : Prop := ∀ (L : List TermM) (v : Value) (w : World) (lo : Nat), HasTs n lo w v L → ∀ m : Int, 0 ≤ m → m ≤ 1048576 →
  Calls Try.prog 21 #[v, .int .i64 m] w fun e w' => ∃ r : Int, e = .returned (.int .i64 r) ∧ (0 ≤ r → r + sizes L ≤ m) ∧ -1 ≤ r ∧ r ≤ 1048576 ∧ Below w.heap.size w w'
/-- laws.szTerm -/
theorem szTerm_of {n : Nat} (hS : SzS n) (op : Int) (l : List UInt8) (s : Int) (L : List TermM) (va : Value) (w : World) {lo : Nat} (hl : l.length ≤ maxLen) (h : HasTs n lo w va L) (m : Int) (hm : 0 ≤ m) (hm2 : m ≤ 1048576) :
    Calls Try.prog 10 #[.agg #[.int .i64 op, .string (bstr l), .int .i64 s, va], .int .i64 m] w fun e w' => ∃ r : Int, e = .returned (.int .i64 r) ∧ (0 ≤ r → r + sizes L ≤ m) ∧ -1 ≤ r ∧ r ≤ 1048576 ∧ Below w.heap.size w w' := by
  have hsz := bstr_size l
  have HSZ := Lib.hid (fun W (hW : Below w.heap.size w W) m h1 h2 => hS L va W lo (h.below (Nat.le_refl _) hW) m h1 h2)
  obtain ⟨A, c, rfl, h⟩ := HasR.shape h rfl
  obtain ⟨k, hk⟩ : ∃ k, k = L.length := ⟨_, rfl⟩
  rw [← hk] at HSZ ⊢
  unfold maxLen at hl
  clear h hk
  by_cases hneg : m - (l.length : Int) < 0
  · go_enter Try.func10, Try.ntmps10
    go_wp2
    go_ret
    exact ⟨-1, rfl, fun h => by omega, by omega, by omega, (Below.refl _ _).alloc (Nat.le_refl _) _⟩
  · go_enter Try.func10, Try.ntmps10
    go_wp2_with fail
    refine (HSZ.out _ ((Below.refl _ _).alloc (Nat.le_refl _) _) (m - l.length) (by omega) (by omega)).mono ?_
    rintro e w1 ⟨r, rfl, hr, hr1, hr2, hb⟩
    have hbw : Below w.heap.size w w1 := ((Below.refl _ _).alloc (Nat.le_refl _) _).trans (hb.mono (by simp))
    clear hb
    by_cases hneg2 : r < 0
    · go_wp2
      go_ret
      exact ⟨-1, rfl, fun h => by omega, by omega, by omega, hbw⟩
    · go_wp2
      go_ret
      exact ⟨r, rfl, fun h => by have := hr h; omega, hr1, hr2, hbw⟩
theorem sizes_take {L : List TermM} {k : Nat} (h : k < L.length) : sizes (L.take (k + 1)) = sizes (L.take k) + size (L.getD k default) := by
  rw [List.take_succ_eq_append_getElem h, getD_at h]
  simp only [sizes, List.map_append, List.map_cons, List.map_nil, List.sum_append, List.sum_cons, List.sum_nil]
  omega
theorem sizes_len (L : List TermM) : L.length ≤ sizes L := by
  induction L with
  | nil => simp
  | cons a l ih =>
    have := size_pos a
    simp only [sizes, List.map_cons, List.sum_cons, List.length_cons] at ih ⊢
    omega
theorem size_le_sizes {l : List TermM} : ∀ {j : Nat}, j < l.length → size (l.getD j default) ≤ sizes l := by
  induction l with
  | nil => intro j h; simp at h
  | cons a l ih =>
    intro j h
    simp only [sizes, List.map_cons, List.sum_cons] at ih ⊢
    cases j with
    | zero => simp
    | succ j =>
      have := ih (j := j) (by simpa using h)
      rw [List.getD_cons_succ]
      omega
theorem szS_step {n : Nat} (hS : ∀ k, n = k + 1 → SzS k) : SzS n := by
  intro L v w lo h m hm hm2
  obtain ⟨N, hN⟩ : ∃ N, N = L.length := ⟨_, rfl⟩
  obtain ⟨A, c, rfl, h⟩ := HasR.shape h hN.symm
  have hl := h.len.2.1
  have HH := Lib.hid h
  have HN := Lib.hid hN
  have HS := Lib.hid hS
  clear h hN hS
  by_cases hneg : m - (N : Int) < 0
  · go_enter Try.func21, Try.ntmps21
    go_wp2
    go_ret
    exact ⟨-1, rfl, fun h => by omega, by omega, by omega, Below.refl _ _⟩
  · have hnm : (N : Int) ≤ m := by omega
    go_enter Try.func21, Try.ntmps21
    go_wp2
    go_loopw [1, 5] (fun v i wr => ∃ (k : Nat) (r : Int), k ≤ N ∧ i = .int .i64 k ∧ v = .int .i64 r ∧ 0 ≤ r ∧ r ≤ 1048576 ∧ Hid (r + (N - k) + sizes (L.take k) ≤ m) ∧ Below w.heap.size w wr) (fun _ i _ => N - (intOf i).toNat)
    case atStart => exact ⟨0, _, Nat.zero_le _, rfl, rfl, by omega, by omega, Lib.hid (by have : sizes (L.take 0) = 0 := rfl; omega), Below.refl _ _⟩
    case round =>
      obtain ⟨k, r, hk, rfl, rfl, hr0, hr1, HSM, hbel⟩ := hrel
      by_cases hlt : k < N
      · obtain ⟨k', g, o, A2, c2, hnk, rfl, _, hg, hc0, hc1, hc2, hc3, hh, hnm, _, _⟩ := term_at HH.out hlt
        rw [← hbel.cell (p := ⟨g, o + k * 4, none⟩) hg] at hc0
        rw [← hbel.cell (p := ⟨g, o + k * 4 + 1, none⟩) hg] at hc1
        rw [← hbel.cell (p := ⟨g, o + k * 4 + 2, none⟩) hg] at hc2
        rw [← hbel.cell (p := ⟨g, o + k * 4 + 3, none⟩) hg] at hc3
        have hh2 := hh.below (Nat.le_refl _) hbel
        have HST : Hid (sizes (L.take (k + 1)) = sizes (L.take k) + size (L.getD k default)) := Lib.hid (sizes_take (by have := HN.out; omega))
        obtain ⟨⟨op, l, s, ags⟩, ht⟩ : ∃ t, t = L.getD k default := ⟨_, rfl⟩
        rw [← ht] at hc0 hc1 hc2 hc3 hh2 hnm HST
        rw [size_mk] at HST
        simp only [TermM.op, TermM.name, TermM.sort, TermM.args] at hc0 hc1 hc2 hc3 hh2 hnm
        have HZ := Lib.hid (fun W (hW : Below wr.heap.size wr W) m h1 h2 => szTerm_of (HS.out k' hnk) op l s ags _ W hnm (hh2.below (Nat.le_refl _) hW) m h1 h2)
        obtain ⟨n2, hn2⟩ : ∃ n2, n2 = ags.length := ⟨_, rfl⟩
        rw [← hn2] at hc3 HZ
        clear hh hh2 hn2 ht hnm
        go_wp2_with fail
        refine (HZ.out _ (Below.refl _ _) r hr0 hr1).mono ?_
        rintro e w2 ⟨r2, rfl, hs, hs1, hs2, hb2⟩
        have HS2 := Lib.hid hs
        clear hs
        by_cases hneg2 : r2 < 0
        · go_wp2
          go_ret
          exact ⟨-1, rfl, fun h => by omega, by omega, by omega, hbel.trans (hb2.mono hbel.size)⟩
        · go_wp2
          go_roundw
          case rel => exact ⟨k + 1, r2, by omega, by go_num, rfl, by omega, hs2, Lib.hid (by have h1 := HS2.out (by omega); have h2 := HSM.out; have h3 := HST.out; omega), hbel.trans (hb2.mono hbel.size)⟩
          case measure => simp [intOf]; omega
      · obtain rfl : k = N := by omega
        have HE : Hid (r + sizes L ≤ m) := Lib.hid (by have h2 := HSM.out; rw [HN.out, List.take_length] at h2; omega)
        go_wp2
        go_ret
        exact ⟨r, rfl, fun _ => HE.out, by omega, hr1, hbel⟩
theorem szTermS_any : ∀ n, SzS n
  | 0 => szS_step (fun k h => by omega)
  | n + 1 => szS_step (fun k h => Nat.succ.inj h ▸ szTermS_any n)
theorem szTerm_any {n : Nat} (op : Int) (l : List UInt8) (s : Int) (L : List TermM) (va : Value) (w : World) {lo : Nat} (hl : l.length ≤ maxLen) (h : HasTs n lo w va L) (m : Int) (hm : 0 ≤ m) (hm2 : m ≤ 1048576) :
    Calls Try.prog 10 #[.agg #[.int .i64 op, .string (bstr l), .int .i64 s, va], .int .i64 m] w fun e w' => ∃ r : Int, e = .returned (.int .i64 r) ∧ (0 ≤ r → r + sizes L ≤ m) ∧ -1 ≤ r ∧ r ≤ 1048576 ∧ Below w.heap.size w w' :=
  szTerm_of (szTermS_any n) op l s L va w hl h m hm hm2
theorem bcell {W w1 : World} (hb : Below W.heap.size W w1) : (∀ b o, b < W.heap.size → w1.cell? ⟨b, o, none⟩ = W.cell? ⟨b, o, none⟩) ∧ (∀ b o, b < W.heap.size → w1.frozen? ⟨b, o, none⟩ = W.frozen? ⟨b, o, none⟩) :=
  ⟨fun b _ h => hb.cell (p := ⟨b, _, none⟩) h, fun b _ h => hb.frozen (p := ⟨b, _, none⟩) h⟩
theorem heap_at (w : World) (o : Obj) (g : Nat) (h : g = w.heap.size) : (w.alloc o).heap[g]? = some o := by subst h; show (w.heap.push o)[w.heap.size]? = _; simp
/-- four cells written into a row -/
theorem set4_old {ys : List Value} {p : Nat} {a b c d : Value} {i : Nat} (h : i < p ∨ p + 4 ≤ i) : ((((ys.set p a).set (p + 1) b).set (p + 2) c).set (p + 3) d)[i]? = ys[i]? := by
  rw [List.getElem?_set_ne (by omega), List.getElem?_set_ne (by omega), List.getElem?_set_ne (by omega), List.getElem?_set_ne (by omega)]
theorem set4_new {ys : List Value} {p : Nat} {a b c d : Value} (h : p + 4 ≤ ys.length) : ((((ys.set p a).set (p + 1) b).set (p + 2) c).set (p + 3) d)[p]? = some a ∧ ((((ys.set p a).set (p + 1) b).set (p + 2) c).set (p + 3) d)[p + 1]? = some b ∧
    ((((ys.set p a).set (p + 1) b).set (p + 2) c).set (p + 3) d)[p + 2]? = some c ∧ ((((ys.set p a).set (p + 1) b).set (p + 2) c).set (p + 3) d)[p + 3]? = some d := by
  refine ⟨?_, ?_, ?_, ?_⟩
  · rw [List.getElem?_set_ne (by omega), List.getElem?_set_ne (by omega), List.getElem?_set_ne (by omega), List.getElem?_set_self (by omega)]
  · rw [List.getElem?_set_ne (by omega), List.getElem?_set_ne (by omega), List.getElem?_set_self (by simp; omega)]
  · rw [List.getElem?_set_ne (by omega), List.getElem?_set_self (by simp; omega)]
  · rw [List.getElem?_set_self (by simp; omega)]
theorem flatMap_same {l : List Nat} {f g : Nat → List Nat} (h : ∀ a ∈ l, f a = g a) : l.flatMap f = l.flatMap g := by
  rw [List.flatMap_def, List.flatMap_def, List.map_congr_left h]
/-- one element's three plain cells and its row -/
def Cells4 (ys : List Value) (j : Nat) (t : TermM) (v : Value) : Prop := ys[j * 4]? = some (.int .i64 t.op) ∧ ys[j * 4 + 1]? = some (.string (bstr t.name)) ∧ ys[j * 4 + 2]? = some (.int .i64 t.sort) ∧ ys[j * 4 + 3]? = some v
def Bnd (t : TermM) : Prop := t.name.length ≤ maxLen ∧ I64 t.op ∧ I64 t.sort
/-- the first j elements of a row are written, each with a row of its own -/
def Part (T : TypeId) (n B : Nat) (w : World) (ys : List Value) (L : List TermM) (j : Nat) : Prop :=
  ∃ (vs : Nat → Value) (Ss : Nat → List Nat), ((List.range j).flatMap Ss).Nodup ∧ ∀ i, i < j → Cells4 ys i (L.getD i default) (vs i) ∧ Bnd (L.getD i default) ∧ OT T n B w (vs i) (L.getD i default).args (Ss i)
theorem Part.zero (T : TypeId) (n B : Nat) (w : World) (ys : List Value) (L : List TermM) : Part T n B w ys L 0 := ⟨fun _ => undef, fun _ => [], by simp, fun i hi => by omega⟩
theorem Part.step {T : TypeId} {n B : Nat} {w w2 w3 : World} {ys : List Value} {L : List TermM} {j g : Nat} {v2 : Value} {S2 : List Nat} {t : TermM} (h : Part T n B w ys L j) (ht : t = L.getD j default) (hb : Below w.heap.size w w2)
    (ho : OT T n w.heap.size w2 v2 t.args S2) (hB : B ≤ w.heap.size) (hc : Chg [g] w2 w3) (hg : g < B) (hl : j * 4 + 4 ≤ ys.length) (hbd : Bnd t) :
    Part T n B w3 ((((ys.set (j * 4) (.int .i64 t.op)).set (j * 4 + 1) (.string (bstr t.name))).set (j * 4 + 2) (.int .i64 t.sort)).set (j * 4 + 3) v2) L (j + 1) := by
  subst ht
  obtain ⟨vs, Ss, hnd, hi⟩ := h
  refine ⟨fun i => if i = j then v2 else vs i, fun i => if i = j then S2 else Ss i, ?_, fun i hij => ?_⟩
  · rw [List.range_succ, List.flatMap_append, flatMap_same (g := Ss) (fun a ha => by rw [if_neg (by have := List.mem_range.1 ha; omega)])]
    simp only [List.flatMap_cons, List.flatMap_nil, List.append_nil, if_pos]
    refine List.nodup_append.2 ⟨hnd, ho.nodup, fun a ha b hb2 e => ?_⟩
    obtain ⟨q, hq, haq⟩ := List.mem_flatMap.1 ha
    have h1 := ((hi q (List.mem_range.1 hq)).2.2.lt a haq).2
    have h2 := (ho.lt b hb2).1
    omega
  · show Cells4 _ i _ (if i = j then v2 else vs i) ∧ _ ∧ OT T n B w3 (if i = j then v2 else vs i) _ (if i = j then S2 else Ss i)
    by_cases e : i = j
    · subst e
      obtain ⟨a, b, c, d⟩ := set4_new (a := .int .i64 (L.getD i default).op) (b := .string (bstr (L.getD i default).name)) (c := .int .i64 (L.getD i default).sort) (d := v2) hl
      refine ⟨⟨a, b, c, by rw [if_pos rfl]; exact d⟩, hbd, ?_⟩
      rw [if_pos rfl, if_pos rfl]
      exact (ho.chg hc (fun k hk => by have := (ho.lt k hk).1; simp; omega)).mono hB
    · obtain ⟨⟨a, b, c, d⟩, hbd2, h3⟩ := hi i (by omega)
      rw [if_neg e, if_neg e]
      refine ⟨⟨?_, ?_, ?_, ?_⟩, hbd2, ?_⟩
      · rw [set4_old (by omega)]; exact a
      · rw [set4_old (by omega)]; exact b
      · rw [set4_old (by omega)]; exact c
      · rw [set4_old (by omega)]; exact d
      · exact (h3.below hb).chg hc (fun k hk => by have := (h3.lt k hk).1; simp; omega)
theorem Part.done {T : TypeId} {n B lo : Nat} {w : World} {ys : List Value} {L : List TermM} {v : Value} (h : Part T n B w ys L L.length) (ho : w.ownsRow lo T 4 v L.length ys) (hv : ∀ g, v.ownBlock = some g → g < B) (hB : lo ≤ B) : ∃ S, OT T (n + 1) lo w v L S := by
  obtain ⟨vs, Ss, hnd, hi⟩ := h
  refine ⟨_, ys, vs, Ss, ho, rfl, ?_, fun j hj => ⟨(hi j hj).1, (hi j hj).2.1, (hi j hj).2.2.mono hB⟩⟩
  refine List.nodup_append.2 ⟨?_, hnd, fun a ha b hb2 e => ?_⟩
  · cases v.ownBlock <;> simp
  · obtain ⟨q, hq, hbq⟩ := List.mem_flatMap.1 hb2
    have h1 := ((hi q (List.mem_range.1 hq)).2.2.lt b hbq).1
    have h2 := hv a (by simpa using ha)
    omega
theorem chg_set1 {w w' : World} {g : Nat} (h : Chg [g] w w') (j : Nat) (u : Value) : Chg [g] w (w'.setCell ⟨g, j, none⟩ u) := h.trans (Chg.set (by simp) u)
theorem info_term : (Try.prog.info? 40).map (fun i => (i.zero, i.size, i.bytes)) = some (some (.agg #[.int .i64 0, .string { data := #[] }, .int .i64 0, .slice none 0 0]), 4, 56) := by kernel_rfl
/-- laws.toTermS, at terms of at most this depth -/
def ToS (n : Nat) : Prop := ∀ (L : List TermM) (v : Value) (w : World) (lo : Nat), HasTs n lo w v L → sizes L ≤ 1048576 →
  Calls Try.prog 26 #[v] w fun e w' => ∃ v' S, e = .returned v' ∧ OT 40 (n + 1) w.heap.size w' v' L S ∧ Below w.heap.size w w'
theorem OT.shape {T : TypeId} {n lo : Nat} {w : World} {v : Value} {L : List TermM} {S : List Nat} (h : OT T (n + 1) lo w v L S) : ∃ A c, v = .slice A L.length c := by
  obtain ⟨xs, vs, Ss, ho, _⟩ := h
  obtain ⟨A, c, e, _⟩ := own_slice ho
  exact ⟨A, c, e⟩
/-- laws.toTerm -/
theorem toTerm_of {n : Nat} (hT : ToS n) (op : Int) (l : List UInt8) (s : Int) (L : List TermM) (hL : sizes L ≤ 1048576) (va : Value) (w : World) {lo : Nat} (h : HasTs n lo w va L) :
    Calls Try.prog 12 #[.agg #[.int .i64 op, .string (bstr l), .int .i64 s, va]] w fun e w' => ∃ v S, e = .returned (.agg #[.int .i64 op, .string (bstr l), .int .i64 s, v]) ∧ OT 40 (n + 1) w.heap.size w' v L S ∧ Below w.heap.size w w' := by
  have HSA := Lib.hid (fun W (hW : Below w.heap.size w W) => hT L va W lo (h.below (Nat.le_refl _) hW) hL)
  obtain ⟨A, ca, rfl, h'⟩ := HasR.shape h rfl
  obtain ⟨k, hk⟩ : ∃ k, k = L.length := ⟨_, rfl⟩
  have HN := Lib.hid hk
  rw [← hk] at HSA ⊢
  clear h h' hk
  go_enter Try.func12, Try.ntmps12
  go_wp2_with fail
  refine (HSA.out _ ?_).mono ?_
  · repeat (first | exact Below.refl _ _ | refine Below.setCell ?_ (by first | (simp; done) | (simp; omega)) _ | refine Below.alloc ?_ (by first | (simp; done) | (simp; omega)) _)
  rintro e w1 ⟨v1, S1, rfl, hh1, hb1⟩
  obtain ⟨A1, c1, rfl⟩ := OT.shape hh1
  rw [← HN.out] at hh1 ⊢
  have HO1 := Lib.hid (hh1.mono (lo' := w.heap.size + 1 + 1 + 1) (by simp))
  have hk1 : w1.heap[w.heap.size + 1]? = some (.cells #[.int .i64 0, .string { data := #[] }, .int .i64 0, .slice none 0 0] 40 (0, 0)) := by
    rw [hb1.block _ (by simp)]; exact (Below.heap_alloc _ _ _ (by simp)).trans (heap_at _ _ _ (by simp))
  have d0 : w1.cell? ⟨w.heap.size + 1, 0, none⟩ = some (.int .i64 0) := cell_of_row w1 _ 0 _ _ _ hk1
  have d1 : w1.cell? ⟨w.heap.size + 1, 1, none⟩ = some (.string { data := #[] }) := cell_of_row w1 _ 1 _ _ _ hk1
  have d2 : w1.cell? ⟨w.heap.size + 1, 2, none⟩ = some (.int .i64 0) := cell_of_row w1 _ 2 _ _ _ hk1
  have d3 : w1.cell? ⟨w.heap.size + 1, 3, none⟩ = some (.slice none 0 0) := cell_of_row w1 _ 3 _ _ _ hk1
  have e0 := frozen_of_row w1 _ 0 _ _ hk1
  have e1 := frozen_of_row w1 _ 1 _ _ hk1
  have e2 := frozen_of_row w1 _ 2 _ _ hk1
  have e3 := frozen_of_row w1 _ 3 _ _ hk1
  have hbw : Below w.heap.size w w1 := by
    refine Below.trans ?_ (hb1.mono ?_)
    · repeat (first | exact Below.refl _ _ | refine Below.setCell ?_ (by first | (simp; done) | (simp; omega)) _ | refine Below.alloc ?_ (by first | (simp; done) | (simp; omega)) _)
    · simp; omega
  obtain ⟨hc1, hf1⟩ := bcell hb1
  have hz : w.heap.size + 2 < w1.heap.size := by have := hb1.size; simp at this; omega
  clear hh1 hk1 hb1
  go_wp2
  refine bodyPost_ret (v := .agg #[.int .i64 op, .string (bstr l), .int .i64 s, .slice A1 k c1]) (by simp [results, Try.results12, go_sem, d0, d1, d2, d3]) rfl ⟨_, S1, rfl, ?_, ?_⟩
  · refine OT.mono (lo := w.heap.size + 1 + 1 + 1) ?_ (by omega)
    refine HO1.out.chg (S' := [w.heap.size + 1, w.heap.size + 2]) ?_ (fun q hq => by have := (HO1.out.lt q hq).1; simp; omega)
    refine Chg.trans ?_ (Chg.set (by simp) _)
    repeat (refine Chg.trans ?_ (Chg.set (by simp) _))
    exact Chg.refl _ _
  · repeat (refine Below.setCell ?_ (by first | (simp; done) | (simp; omega)) _)
    exact hbw
theorem toS_step {n : Nat} (hS : ∀ k, n = k + 1 → ToS k) : ToS n := by
  intro L v w lo h hsz
  obtain ⟨N, hN⟩ : ∃ N, N = L.length := ⟨_, rfl⟩
  obtain ⟨A, c, rfl, h⟩ := HasR.shape h hN.symm
  obtain ⟨i0, hi, hz0, hz1, hz2⟩ := info_parts info_term
  have hn2 : N ≤ 1048576 := by have := sizes_len L; omega
  have HH := Lib.hid h
  have HN := Lib.hid hN
  have HS := Lib.hid hS
  have HSZ := Lib.hid hsz
  clear h hN hS hsz
  go_enter Try.func26, Try.ntmps26
  go_wp2_with (at_make; refine wpList_make_full _ rfl _ _ 29 rfl w.heap.size 40 i0 _ 4 Try.underlying29 hi hz0 hz1 _ _ _ _ N rfl rfl rfl rfl (by rw [hz2]; omega) (by unfold maxLen; omega) (Nat.le_refl _) ?_)
  intro w1 hown hgrow
  have hsz1 : w.heap.size < w1.heap.size := by
    rcases hown.2 with ⟨hv, _⟩ | ⟨g, cap, cur, hv, hb, hg, _⟩
    · cases hv
    · have := (Array.getElem?_eq_some_iff.1 hg).1; omega
  go_wp2
  go_loopw [4] (fun i wr => ∃ (j : Nat) (ys : List Value), j ≤ N ∧ i = .int .i64 j ∧ wr.ownsRow w.heap.size 40 4 (.slice (some ⟨w.heap.size, 0, none⟩) N N) N ys ∧
      Hid (Part 40 n (w.heap.size + 1) wr ys L j) ∧ w.heap.size < wr.heap.size ∧ Below w.heap.size w wr) (fun i _ => N - (intOf i).toNat)
  case atStart => exact ⟨0, _, Nat.zero_le _, rfl, hown, Lib.hid (Part.zero _ _ _ _ _ _), hsz1, (Below.refl _ _).grown hgrow (Nat.le_refl _) (by intro k h; cases h)⟩
  case round =>
    obtain ⟨j, ys, hj, rfl, hown, HY, hsz, hbel⟩ := hrel
    by_cases hlt : j < N
    · obtain ⟨k', g, o, A2, c2, hnk, rfl, _, hg, hc0, hc1, hc2, hc3, hh, hbd⟩ := term_at HH.out hlt
      rw [← hbel.cell (p := ⟨g, o + j * 4, none⟩) hg] at hc0
      rw [← hbel.cell (p := ⟨g, o + j * 4 + 1, none⟩) hg] at hc1
      rw [← hbel.cell (p := ⟨g, o + j * 4 + 2, none⟩) hg] at hc2
      rw [← hbel.cell (p := ⟨g, o + j * 4 + 3, none⟩) hg] at hc3
      have hh2 := hh.below (Nat.le_refl _) hbel
      have hse : sizes (L.getD j default).args ≤ 1048576 := by
        have h1 := HSZ.out
        have h2 := size_le_sizes (l := L) (j := j) (by have := HN.out; omega)
        rw [← (L.getD j default).eta, size_mk] at h2
        omega
      obtain ⟨t, ht⟩ : ∃ t, t = L.getD j default := ⟨_, rfl⟩
      rw [← ht] at hc0 hc1 hc2 hc3 hh2 hbd hse
      have HT := Lib.hid (hnk ▸ toTerm_of (HS.out k' hnk) t.op t.name t.sort t.args hse _ wr hh2 : Calls Try.prog 12 _ wr fun e w' => ∃ v S, e = .returned (.agg #[.int .i64 t.op, .string (bstr t.name), .int .i64 t.sort, v]) ∧ OT 40 n wr.heap.size w' v t.args S ∧ Below wr.heap.size wr w')
      have HX := Lib.hid ht
      have HB := Lib.hid hbd
      have HOWN := Lib.hid hown
      obtain ⟨q, hq⟩ : ∃ q, q = t.args.length := ⟨_, rfl⟩
      obtain ⟨op, hop⟩ : ∃ x, x = t.op := ⟨_, rfl⟩
      obtain ⟨nm, hnm⟩ : ∃ x, x = t.name := ⟨_, rfl⟩
      obtain ⟨so, hso⟩ : ∃ x, x = t.sort := ⟨_, rfl⟩
      rw [← hq] at hc3 HT
      rw [← hop] at hc0 HT
      rw [← hnm] at hc1 HT
      rw [← hso] at hc2 HT
      have HE := Lib.hid (And.intro hop (And.intro hnm hso))
      have HK := Lib.hid hnk
      have HQ := Lib.hid hq
      clear hh hh2 ht hown hbd hq hop hnm hso hnk hse
      go_wp2_with fail
      refine (HT.out).mono ?_
      rintro e w2 ⟨v2, S2, rfl, hv2, hb2⟩
      have HO2 := Lib.hid (own_below HOWN.out hb2)
      have HV := Lib.hid hv2
      have HB2 := Lib.hid hb2
      obtain ⟨⟨v0, hw0⟩, hf0⟩ := own_get HO2.out (i := j * 4) (by omega)
      obtain ⟨⟨v1, hw1⟩, hf1⟩ := own_get HO2.out (i := j * 4 + 1) (by omega)
      obtain ⟨⟨v2', hw2⟩, hf2⟩ := own_get HO2.out (i := j * 4 + 2) (by omega)
      obtain ⟨⟨v3, hw3⟩, hf3⟩ := own_get HO2.out (i := j * 4 + 3) (by omega)
      obtain ⟨A3, c3, hsl⟩ : ∃ A c, v2 = .slice A t.args.length c := by
        have h := hv2
        rw [HK.out] at h
        exact OT.shape h
      rw [← HQ.out] at hsl
      subst hsl
      clear hv2
      go_wp2
      go_roundw
      case rel =>
        refine ⟨j + 1, _, by omega, by go_num, setCell_own (setCell_own (setCell_own (setCell_own HO2.out (j * 4) _) (j * 4 + 1) _) (j * 4 + 2) _) (j * 4 + 3) _, Lib.hid ?_, by simp [World.setCell]; have := hb2.size; omega, ((((hbel.trans (hb2.mono hbel.size)).setCell (Nat.le_refl _) _).setCell (Nat.le_refl _) _).setCell (Nat.le_refl _) _).setCell (Nat.le_refl _) _⟩
        have hlen : ys.length = N * 4 := by have := HOWN.out.1; omega
        obtain ⟨h1, h2, h3⟩ := HE.out
        rw [h1, h2, h3]
        exact Part.step HY.out HX.out HB2.out HV.out (by omega) (chg_set1 (chg_set1 (chg_set1 (chg_set1 (Chg.refl _ _) _ _) _ _) _ _) _ _) (Nat.lt_succ_self _) (by omega) HB.out
      case measure => simp [intOf]; omega
    · obtain rfl : j = N := by omega
      have HW : Hid (∃ S, OT 40 (n + 1) w.heap.size wr (.slice (some ⟨w.heap.size, 0, none⟩) j j) L S) := Lib.hid (by
        have h1 := HY.out
        rw [HN.out] at h1 hown
        rw [HN.out]
        exact Part.done h1 hown (fun g hg => by simp [Value.ownBlock] at hg; omega) (by omega))
      clear hown
      go_wp2
      go_ret
      obtain ⟨S, hS⟩ := HW.out
      exact ⟨_, S, rfl, hS, hbel⟩
theorem toTermS_any : ∀ n, ToS n
  | 0 => toS_step (fun k h => by omega)
  | n + 1 => toS_step (fun k h => Nat.succ.inj h ▸ toTermS_any n)
theorem toTerm_any {n : Nat} (op : Int) (l : List UInt8) (s : Int) (L : List TermM) (hL : sizes L ≤ 1048576) (va : Value) (w : World) {lo : Nat} (h : HasTs n lo w va L) :
    Calls Try.prog 12 #[.agg #[.int .i64 op, .string (bstr l), .int .i64 s, va]] w fun e w' => ∃ v S, e = .returned (.agg #[.int .i64 op, .string (bstr l), .int .i64 s, v]) ∧ OT 40 (n + 1) w.heap.size w' v L S ∧ Below w.heap.size w w' :=
  toTerm_of (toTermS_any n) op l s L hL va w h
end Go.Proofs.Ytiilamngcoegiaa.termt
