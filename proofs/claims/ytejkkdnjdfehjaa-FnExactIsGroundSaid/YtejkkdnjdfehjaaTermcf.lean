/-
  THE LIBRARY'S CompactFunc AT A ROW OF TERMS WITHOUT ARGUMENTS, OF ONE'S OWN.
-/
import Derived.Test.YtejkkdnjdfehjaaTermvr
import Derived.Laws.IdiomCopy
import Derived.IntWalk
namespace Go.Proofs.Ytejkkdnjdfehjaa.termcf
open Go.ChangeShapes Go.WideShapes Go.ChangeAt Go.RowKit
open mem dec rowl trm trmv terml termb termt termx termz termro termsd termvr

/-- of the first i elements: those that differ from the one before -/
noncomputable def dedN (L : List TermM) : Nat → List TermM
  | 0 => []
  | i + 1 => if i = 0 ∨ cmp (L.getD i default) (L.getD (i - 1) default) ≠ 0 then dedN L i ++ [L.getD i default] else dedN L i
theorem dedN_le (L : List TermM) : ∀ i, (dedN L i).length ≤ i
  | 0 => Nat.le_refl _
  | i + 1 => by
    have := dedN_le L i
    rw [dedN]
    split
    · simp; omega
    · omega
theorem dedN_all (L : List TermM) : ∀ k, k ≤ L.length → (∀ j, 1 ≤ j → j < k → cmp (L.getD j default) (L.getD (j - 1) default) ≠ 0) → dedN L k = L.take k
  | 0, _, _ => by simp [dedN]
  | k + 1, hk, h => by
    have ih := dedN_all L k (by omega) (fun j h1 h2 => h j h1 (by omega))
    have hc : k = 0 ∨ cmp (L.getD k default) (L.getD (k - 1) default) ≠ 0 := by
      rcases Nat.eq_zero_or_pos k with h0 | h0
      · exact .inl h0
      · exact .inr (h k h0 (by omega))
    rw [dedN, if_pos hc, ih, List.take_succ_eq_append_getElem (by omega), getD_at (by omega)]
theorem dedN_mem (L : List TermM) : ∀ i, i ≤ L.length → ∀ x, x ∈ dedN L i ↔ ∃ j, j < i ∧ x = L.getD j default
  | 0, _, x => by simp [dedN]
  | i + 1, hi, x => by
    have ih := dedN_mem L i (by omega) x
    rw [dedN]
    split
    · rw [List.mem_append, ih, List.mem_singleton]
      constructor
      · rintro (⟨j, hj, e⟩ | e)
        · exact ⟨j, by omega, e⟩
        · exact ⟨i, by omega, e⟩
      · rintro ⟨j, hj, e⟩
        by_cases hji : j = i
        · subst hji; exact .inr e
        · exact .inl ⟨j, by omega, e⟩
    · rename_i hc
      have h0 : cmp (L.getD i default) (L.getD (i - 1) default) = 0 := by
        by_cases h : cmp (L.getD i default) (L.getD (i - 1) default) = 0
        · exact h
        · exact absurd (.inr h) hc
      have hi0 : i ≠ 0 := fun e => hc (.inl e)
      have he := (cmp_zero _ _).1 h0
      rw [ih]
      constructor
      · rintro ⟨j, hj, e⟩; exact ⟨j, by omega, e⟩
      · rintro ⟨j, hj, e⟩
        by_cases hji : j = i
        · subst hji; exact ⟨j - 1, by omega, by rw [e, he]⟩
        · exact ⟨j, by omega, e⟩
theorem dedN_asc (L : List TermM) (hs : Srt L) : ∀ i, i ≤ L.length → Asc (dedN L i) ∧ ∀ x ∈ dedN L i, cmp x (L.getD (i - 1) default) ≤ 0
  | 0, _ => by simp [dedN, Asc]
  | i + 1, hi => by
    obtain ⟨h1, h2⟩ := dedN_asc L hs i (by omega)
    have hle : i ≠ 0 → cmp (L.getD (i - 1) default) (L.getD i default) ≤ 0 := fun h0 => by
      rw [getD_at (show i - 1 < L.length by omega), getD_at (show i < L.length by omega)]
      exact List.pairwise_iff_getElem.1 hs (i - 1) i (by omega) (by omega) (by omega)
    rw [Nat.add_sub_cancel, dedN]
    split
    · rename_i hc
      have hlt : ∀ x ∈ dedN L i, cmp x (L.getD i default) < 0 := fun x hx => by
        have hi0 : i ≠ 0 := fun e => by subst e; simp [dedN] at hx
        have hne := hc.resolve_left hi0
        have hsw := cmp_swap (L.getD (i - 1) default) (L.getD i default)
        have h3 := hle hi0
        have h4 := h2 x hx
        have h5 := cmp_trans _ _ _ h4 h3
        have : cmp x (L.getD i default) ≠ 0 := fun e => by
          have e' := (cmp_zero _ _).1 e
          subst e'
          omega
        omega
      refine ⟨List.pairwise_append.2 ⟨h1, List.pairwise_singleton _ _, fun a ha b hb => ?_⟩, fun x hx => ?_⟩
      · rw [List.mem_singleton] at hb; subst hb; exact hlt a ha
      · rcases List.mem_append.1 hx with hx | hx
        · have := hlt x hx; omega
        · rw [List.mem_singleton] at hx; subst hx; rw [cmp_self]; omega
    · rename_i hc
      have hi0 : i ≠ 0 := fun e => hc (.inl e)
      exact ⟨h1, fun x hx => cmp_trans _ _ _ (h2 x hx) (hle hi0)⟩
/-- a cell of a row of variables -/
theorem flatV_take (L : List TermM) (k : Nat) : (flatV L).take (k * 4) = flatV (L.take k) := by
  induction L generalizing k with
  | nil => simp [flatV]
  | cons a l ih =>
    cases k with
    | zero => simp [flatV]
    | succ k => rw [List.take_succ_cons, flatV, flatV, show (k + 1) * 4 = k * 4 + 4 by omega]; simp [List.take_succ_cons, ih]
/-- as the row stands when i elements have been looked at -/
structure Comp (L : List TermM) (i kk : Nat) (ys : List Value) : Prop where
  len : ys.length = L.length * 4
  low : ys.take (kk * 4) = flatV (dedN L i)
  num : kk = (dedN L i).length
  lt : kk < i
  high : ∀ p, (i - 1) * 4 ≤ p → ys[p]? = (flatV L)[p]?
theorem Comp.at {L : List TermM} {i kk : Nat} {ys : List Value} (h : Comp L i kk ys) {j : Nat} (hj : j < L.length) (hi : i - 1 ≤ j) : Cells4 ys j (L.getD j default) (.slice none 0 0) := by
  obtain ⟨a, b, c, d⟩ := flatV_at hj
  exact ⟨(h.high _ (by omega)).trans a, (h.high _ (by omega)).trans b, (h.high _ (by omega)).trans c, (h.high _ (by omega)).trans d⟩
theorem Comp.skip {L : List TermM} {i kk : Nat} {ys : List Value} (h : Comp L i kk ys) (h0 : 0 < i) (he : cmp (L.getD i default) (L.getD (i - 1) default) = 0) : Comp L (i + 1) kk ys := by
  have hd : dedN L (i + 1) = dedN L i := by rw [dedN, if_neg (by rintro (h | h); omega; exact h he)]
  exact ⟨h.len, by rw [hd]; exact h.low, by rw [hd]; exact h.num, by have := h.lt; omega, fun p hp => h.high p (by omega)⟩
theorem Comp.keep {L : List TermM} {i kk : Nat} {ys : List Value} (h : Comp L i kk ys) (hi : i < L.length) (he : cmp (L.getD i default) (L.getD (i - 1) default) ≠ 0) :
    Comp L (i + 1) (kk + 1) ((((ys.set (kk * 4) (.int .i64 (L.getD i default).op)).set (kk * 4 + 1) (.string (bstr (L.getD i default).name))).set (kk * 4 + 2) (.int .i64 (L.getD i default).sort)).set (kk * 4 + 3) (.slice none 0 0)) := by
  have hlt := h.lt
  have hlen := h.len
  have hd : dedN L (i + 1) = dedN L i ++ [L.getD i default] := by rw [dedN, if_pos (.inr he)]
  refine ⟨by simp [hlen], ?_, by rw [hd, List.length_append, ← h.num]; rfl, by omega, fun p hp => ?_⟩
  · rw [hd, flatV_append, ← h.low]
    apply List.ext_getElem?
    intro p
    have hl1 : (ys.take (kk * 4)).length = kk * 4 := by rw [List.length_take]; omega
    by_cases hp : p < kk * 4
    · rw [List.getElem?_take_of_lt (by omega), List.getElem?_append_left (by omega), List.getElem?_take_of_lt hp]
      rw [List.getElem?_set_ne (by omega), List.getElem?_set_ne (by omega), List.getElem?_set_ne (by omega), List.getElem?_set_ne (by omega)]
    · rw [List.getElem?_append_right (by omega), hl1]
      by_cases hp4 : p < kk * 4 + 4
      · rw [List.getElem?_take_of_lt (by omega)]
        obtain ⟨q, rfl⟩ : ∃ q, p = kk * 4 + q := ⟨p - kk * 4, by omega⟩
        rw [Nat.add_sub_cancel_left]
        match q, (show q < 4 by omega) with
        | 0, _ => rw [List.getElem?_set_ne (by omega), List.getElem?_set_ne (by omega), List.getElem?_set_ne (by omega), Nat.add_zero, List.getElem?_set_self (by omega)]; rfl
        | 1, _ => rw [List.getElem?_set_ne (by omega), List.getElem?_set_ne (by omega), List.getElem?_set_self (by simp; omega)]; rfl
        | 2, _ => rw [List.getElem?_set_ne (by omega), List.getElem?_set_self (by simp; omega)]; rfl
        | 3, _ => rw [List.getElem?_set_self (by simp; omega)]; rfl
      · rw [List.getElem?_take_eq_none (by omega)]
        symm
        exact List.getElem?_eq_none (by show _ ≤ _; simp only [flatV, List.length_cons, List.length_nil]; omega)
  · rw [List.getElem?_set_ne (by omega), List.getElem?_set_ne (by omega), List.getElem?_set_ne (by omega), List.getElem?_set_ne (by omega)]
    exact h.high p (by omega)
theorem Comp.start {L : List TermM} {k : Nat} (h : ∀ j, 1 ≤ j → j < k → cmp (L.getD j default) (L.getD (j - 1) default) ≠ 0) (hk : 0 < k) (hlt : k < L.length) (he : cmp (L.getD k default) (L.getD (k - 1) default) = 0) : Comp L (k + 1) k (flatV L) := by
  have hd : dedN L (k + 1) = L.take k := by rw [dedN, if_neg (by rintro (h | h); omega; exact h he)]; exact dedN_all L k (by omega) h
  exact ⟨flatV_len L, by rw [hd, flatV_take], by rw [hd, List.length_take]; omega, by omega, fun p _ => rfl⟩
/-- 'clear(s)' on a slice of elements of four cells -/
theorem run_clear4 {P : Program} (w : World) (t e : TypeId) (z : Value) (ht : P.underlying t = some (.slice e)) (hv : ∀ w, (zeroValue e).run P w = .ok z w) (hz : z.cells.size = 4) (h1 : ∀ v ∈ z.cells.toList, v.oneCell' = true) (b o n c : Nat)
    (hc : ∀ j, j < n * 4 → (w.cell? ⟨b, o + j, none⟩).isSome = true) (hf : ∀ j, j < n * 4 → w.frozen? ⟨b, o + j, none⟩ = false) :
    ∃ vs : List Value, ∀ ty, (Builtin.clear_ #[t] ty #[.slice (some ⟨b, o, none⟩) n c]).run P w = .ok (.tuple #[]) (w.setCells b o vs) := by
  have hlen : (Builtin.zeroCells z.cells n).toList.length = n * 4 := by simp [Builtin.zeroCells, hz]
  have hst := run_storeCells_cells (P := P) b o (Builtin.zeroCells z.cells n).toList 0 w (by rw [hlen]; simpa using hc) (by rw [hlen]; simpa using hf) (by
    intro v hv'
    simp only [Builtin.zeroCells, Array.toList_map, List.mem_map, Array.toList_range, List.mem_range] at hv'
    obtain ⟨i, _, rfl⟩ := hv'
    refine h1 _ ?_
    rw [getElem!_pos _ _ (by rw [hz]; exact Nat.mod_lt _ (by omega))]
    simp)
  simp only [Nat.add_zero] at hst
  cases n with
  | zero => exact ⟨[], fun ty => by simp [Builtin.clear_, run_underlying ht, World.setCells]⟩
  | succ m => exact ⟨(Builtin.zeroCells z.cells (m + 1)).toList, fun ty => by simp [Builtin.clear_, run_underlying ht, hv, hst]⟩
theorem setCells_own {base n g cap size : Nat} {e : TypeId} {xs : List Value} : ∀ (vs : List Value) (o : Nat) (w : World), w.ownsRow base e size (.slice (some ⟨g, 0, none⟩) n cap) n xs → n * size ≤ o → (w.setCells g o vs).ownsRow base e size (.slice (some ⟨g, 0, none⟩) n cap) n xs
  | [], _, _, h, _ => h
  | v :: vs, o, w, h, ho => by
    have h' := setCell_own h o v
    rw [List.set_eq_of_length_le (by have := h.1; omega)] at h'
    exact setCells_own vs (o + 1) _ h' (by omega)
theorem setCells_chg (g : Nat) : ∀ (vs : List Value) (o : Nat) (w : World), Chg [g] w (w.setCells g o vs)
  | [], _, w => Chg.refl _ w
  | v :: vs, o, w => (Chg.set (by simp) v).trans (setCells_chg g vs (o + 1) _)
/-- what it leaves -/
def CompPost (L : List TermM) (n g cap base : Nat) (w : World) (e : Ending) (w' : World) : Prop := ∃ m, m = (dedN L n).length ∧ e = .returned (.slice (some ⟨g, 0, none⟩) m cap) ∧
  w'.ownsRow base 51 4 (.slice (some ⟨g, 0, none⟩) m cap) m (flatV (dedN L n)) ∧ Chg [g] w w'
abbrev S8 (g p q : Nat) (t u : TermM) (w' : World) : Prop := (w'.cell? ⟨g, p, none⟩ = some (.int .i64 t.op) ∧ w'.cell? ⟨g, p + 1, none⟩ = some (.string (bstr t.name)) ∧ w'.cell? ⟨g, p + 2, none⟩ = some (.int .i64 t.sort) ∧ w'.cell? ⟨g, p + 3, none⟩ = some (.slice none 0 0)) ∧
  w'.cell? ⟨g, q, none⟩ = some (.int .i64 u.op) ∧ w'.cell? ⟨g, q + 1, none⟩ = some (.string (bstr u.name)) ∧ w'.cell? ⟨g, q + 2, none⟩ = some (.int .i64 u.sort) ∧ w'.cell? ⟨g, q + 3, none⟩ = some (.slice none 0 0)
theorem S8.below {g p q : Nat} {t u : TermM} {w w' : World} (h : S8 g p q t u w) (hg : g < w.heap.size) (hb : Below w.heap.size w w') : S8 g p q t u w' := by
  have k : ∀ y, w'.cell? ⟨g, y, none⟩ = w.cell? ⟨g, y, none⟩ := fun y => hb.cell (p := ⟨g, y, none⟩) hg
  unfold S8
  rw [k, k, k, k, k, k, k, k]
  exact h
theorem cells_at {w : World} {base n g cap : Nat} {e : TypeId} {xs : List Value} (h : w.ownsRow base e 4 (.slice (some ⟨g, 0, none⟩) n cap) n xs) {j : Nat} {t : TermM} {v : Value} (hj : j < n) (hc : Cells4 xs j t v) :
    w.cell? ⟨g, j * 4, none⟩ = some (.int .i64 t.op) ∧ w.cell? ⟨g, j * 4 + 1, none⟩ = some (.string (bstr t.name)) ∧ w.cell? ⟨g, j * 4 + 2, none⟩ = some (.int .i64 t.sort) ∧ w.cell? ⟨g, j * 4 + 3, none⟩ = some v := by
  obtain ⟨a, b, c, d⟩ := hc
  exact ⟨(h.cellAt _ (by omega)).trans a, (h.cellAt _ (by omega)).trans b, (h.cellAt _ (by omega)).trans c, (h.cellAt _ (by omega)).trans d⟩
set_option maxRecDepth 50000 in
set_option maxHeartbeats 8000000 in
theorem compact_any (L : List TermM) (n g cap base : Nat) (w : World) (hn : n = L.length) (hn30 : n ≤ 1073741824) (hL : ∀ t ∈ L, t.args = []) (ho : w.ownsRow base 51 4 (.slice (some ⟨g, 0, none⟩) n cap) n (flatV L)) :
    Calls Try.prog 63 #[.slice (some ⟨g, 0, none⟩) n cap, .func (.func 64) #[] #[]] w (CompPost L n g cap base w) := by
  obtain ⟨hbg, hgw, hnc⟩ := own_lt ho
  have HE := Lib.hid (fun t u (ht : t.args = []) (hu : u.args = []) W r (hr : decide (cmp t u = 0) = r) => areEqual_any (n := 1) (lo := 0) (lo' := 0) t u (.slice none 0 0) (.slice none 0 0) W (by rw [ht]; exact HasR.nil _ _ _ (by unfold maxLen; omega) _) (by rw [hu]; exact HasR.nil _ _ _ (by unfold maxLen; omega) _) (by rw [ht]; simp [sizes]) r hr)
  have HA : Hid (∀ j, j < n → (L.getD j default).args = []) := Lib.hid (fun j hj => by rw [getD_at (by omega)]; exact hL _ (List.getElem_mem _))
  have HN := Lib.hid hn
  have HO := Lib.hid ho
  clear hn hL ho
  by_cases h2 : n < 2
  · have HD : Hid (dedN L n = L) := Lib.hid (by
      have := HN.out
      rw [dedN_all L n (by omega) (fun j h1 h2 => by omega), List.take_of_length_le (by omega)])
    go_enter Try.func63, Try.ntmps63
    go_wp2
    go_ret
    exact ⟨n, by rw [HD.out]; exact HN.out, rfl, by rw [HD.out]; exact HO.out, Chg.refl _ _⟩
  go_enter Try.func63, Try.ntmps63
  go_wp2
  go_loopw [5] (fun v5 wr => ∃ k : Nat, v5 = .int .i64 k ∧ 1 ≤ k ∧ k ≤ n ∧ Hid (∀ j, 1 ≤ j → j < k → cmp (L.getD j default) (L.getD (j - 1) default) ≠ 0) ∧ Hid (Below w.heap.size w wr)) (fun i _ => n - (intOf i).toNat)
  case atStart => exact ⟨1, rfl, Nat.le_refl _, by omega, Lib.hid (fun j h1 h2 => by omega), Lib.hid (Below.refl _ _)⟩
  case round =>
    obtain ⟨k, rfl, hk1, hkn, HD, HB⟩ := hrel
    have HO1 := Lib.hid (own_below HO.out HB.out)
    have hsz := HB.out.size
    have hgr : g < wr.heap.size := by omega
    by_cases hlt : k < n
    · obtain ⟨k1, rfl⟩ : ∃ k1, k = k1 + 1 := ⟨k - 1, by omega⟩
      have hln : n = L.length := HN.out
      obtain ⟨c0, c1, c2, c3⟩ := cells_at HO1.out hlt (flatV_at (by omega))
      obtain ⟨d0, d1, d2, d3⟩ := cells_at HO1.out (show k1 < n by omega) (flatV_at (by omega))
      obtain ⟨t, ht⟩ : ∃ t, t = L.getD (k1 + 1) default := ⟨_, rfl⟩
      obtain ⟨u, hu⟩ : ∃ t, t = L.getD k1 default := ⟨_, rfl⟩
      rw [← ht] at c0 c1 c2
      rw [← hu] at d0 d1 d2
      have HTU : Hid (t = L.getD (k1 + 1) default ∧ u = L.getD k1 default) := Lib.hid ⟨ht, hu⟩
      have hta : t.args = [] := by rw [ht]; exact HA.out _ hlt
      have hua : u.args = [] := by rw [hu]; exact HA.out _ (by omega)
      clear hln ht hu
      have HC := Lib.hid (fun W r hr => HE.out t u hta hua W r hr)
      unfold aggT at HC
      clear hta hua
      have i1 : (0 : Int) ≤ (k1 : Int) + 1 := by omega
      have i2 : (k1 : Int) + 1 < (n : Int) := by omega
      have i3 : (0 : Int) ≤ (k1 : Int) := by omega
      have i4 : (k1 : Int) < (n : Int) := by omega
      have i5 : IntKind.i64.wrap ((k1 : Int) + 1 - 1) = (k1 : Int) := by rw [IntWalk.i64_in _ (by omega)]; omega
      have i6 : IntKind.i64.wrap (k1 : Int) = (k1 : Int) := IntWalk.i64_in _ (by omega)
      by_cases heq : cmp t u = 0
      · have HF : Hid (decide (cmp t u = 0) = true) := Lib.hid (decide_eq_true heq)
        have HI0 : Hid (Comp L (k1 + 1 + 1) (k1 + 1) (flatV L)) := Lib.hid (Comp.start HD.out (by omega) (by have := HN.out; omega) (by rw [← HTU.out.1, show k1 + 1 - 1 = k1 from rfl, ← HTU.out.2]; exact heq))
        clear heq
        go_wp2_with fail
        go_region_held3 (fun w' => (w'.cell? ⟨g, (k1 + 1) * 4, none⟩ = some (.int .i64 t.op) ∧ w'.cell? ⟨g, (k1 + 1) * 4 + 1, none⟩ = some (.string (bstr t.name)) ∧ w'.cell? ⟨g, (k1 + 1) * 4 + 2, none⟩ = some (.int .i64 t.sort) ∧ w'.cell? ⟨g, (k1 + 1) * 4 + 3, none⟩ = some (.slice none 0 0)) ∧
            w'.cell? ⟨g, k1 * 4, none⟩ = some (.int .i64 u.op) ∧ w'.cell? ⟨g, k1 * 4 + 1, none⟩ = some (.string (bstr u.name)) ∧ w'.cell? ⟨g, k1 * 4 + 2, none⟩ = some (.int .i64 u.sort) ∧ w'.cell? ⟨g, k1 * 4 + 3, none⟩ = some (.slice none 0 0))
          (first | (with_reducible assumption) | ((refine S8.below (w := wr.drew) ?_ hgr hgb.below); with_reducible assumption) | (refine ⟨⟨?_, ?_, ?_, ?_⟩, ?_, ?_, ?_, ?_⟩ <;> assumption))
          ((go_at_call 64; refine (HC.out _ _ HF.out).mono ?_; rintro e w1 ⟨rfl, hgb⟩))
        have hbd : Below wr.heap.size wr w1 := (Below.refl _ _).drew.trans (hgb.below.mono (Nat.le_refl _))
        have HB1 : Hid (Below w.heap.size w w1) := Lib.hid (HB.out.trans (hbd.mono hsz))
        have HO2 := Lib.hid (own_below HO1.out hbd)
        clear hgb hbd c0 c1 c2 c3 d0 d1 d2 d3 HO1 HB
        have hk1n : k1 + 1 < cap := by omega
        have hne1 : ¬ k1 + 1 = cap := by omega
        have i7 : ((k1 : Int) + 1).toNat = k1 + 1 := by omega
        have i8 : ((n : Int) - ((k1 : Int) + 1)).toNat = n - (k1 + 1) := by omega
        go_wp2
        clear HF HTU HC HD i2 i4 i5 i6
        obtain ⟨wo, hwo⟩ : ∃ wo, wo = wr := ⟨wr, rfl⟩
        subst hwo
        go_loopw [5, 7] (fun v5 v7 wr => ∃ (kk k2 : Nat) (ys : List Value), v5 = .int .i64 kk ∧ v7 = .int .i64 k2 ∧ 1 ≤ k2 ∧ k1 + 1 + k2 ≤ n ∧ kk ≤ k1 + k2 ∧ Hid (Comp L (k1 + 1 + k2) kk ys) ∧ Hid (wr.ownsRow base 51 4 (.slice (some ⟨g, 0, none⟩) n cap) n ys) ∧ Hid (Chg [g] w wr)) (fun _ i _ => n - (intOf i).toNat)
        case atStart => exact ⟨k1 + 1, 1, flatV L, by go_num, rfl, Nat.le_refl _, by omega, by omega, HI0, HO2, Lib.hid (Chg.of_below HB1.out)⟩
        case round =>
          clear HO2 HI0 HB1
          obtain ⟨kk, k2, ys, rfl, rfl, hk21, hk2n, hkk, HI, HOY, HG⟩ := hrel
          by_cases hlt2 : k1 + 1 + k2 < n
          · obtain ⟨k3, rfl⟩ : ∃ k3, k2 = k3 + 1 := ⟨k2 - 1, by omega⟩
            have hln : n = L.length := HN.out
            obtain ⟨c0, c1, c2, c3⟩ := cells_at HOY.out hlt2 (HI.out.at (by omega) (by omega))
            obtain ⟨d0, d1, d2, d3⟩ := cells_at HOY.out (show k1 + 1 + k3 < n by omega) (HI.out.at (by omega) (by omega))
            have hgr2 : g < wr.heap.size := (own_lt HOY.out).2.1
            rw [show (k1 + 1 + (k3 + 1)) * 4 = (k1 + 1) * 4 + (k3 + 1) * 4 by omega] at c0 c1 c2 c3
            rw [show (k1 + 1 + k3) * 4 = (k1 + 1) * 4 + k3 * 4 by omega] at d0 d1 d2 d3
            obtain ⟨t2, ht⟩ : ∃ t, t = L.getD (k1 + 1 + (k3 + 1)) default := ⟨_, rfl⟩
            obtain ⟨u2, hu⟩ : ∃ t, t = L.getD (k1 + 1 + k3) default := ⟨_, rfl⟩
            rw [← ht] at c0 c1 c2
            rw [← hu] at d0 d1 d2
            have HTU : Hid (t2 = L.getD (k1 + 1 + (k3 + 1)) default ∧ u2 = L.getD (k1 + 1 + (k3 + 1) - 1) default) := Lib.hid ⟨ht, hu⟩
            have hta : t2.args = [] := by rw [ht]; exact HA.out _ hlt2
            have hua : u2.args = [] := by rw [hu]; exact HA.out _ (by omega)
            clear hln ht hu
            have HC2 := Lib.hid (fun W r hr => HE.out t2 u2 hta hua W r hr)
            unfold aggT at HC2
            clear hta hua
            have j1 : (0 : Int) ≤ (k3 : Int) + 1 := by omega
            have j2 : (k3 : Int) + 1 < (n : Int) - ((k1 : Int) + 1) := by omega
            have j2' : (k3 : Int) + 1 < ((n - (k1 + 1) : Nat) : Int) := by omega
            have j3 : (0 : Int) ≤ (k3 : Int) := by omega
            have j4 : (k3 : Int) < ((n - (k1 + 1) : Nat) : Int) := by omega
            have j5 : IntKind.i64.wrap ((k3 : Int) + 1 - 1) = (k3 : Int) := by rw [IntWalk.i64_in _ (by omega)]; omega
            have j6 : IntKind.i64.wrap (k3 : Int) = (k3 : Int) := IntWalk.i64_in _ (by omega)
            by_cases heq2 : cmp t2 u2 = 0
            · have HF2 : Hid (decide (cmp t2 u2 = 0) = true) := Lib.hid (decide_eq_true heq2)
              have HI3 : Hid (Comp L (k1 + 1 + (k3 + 1) + 1) kk ys) := Lib.hid (HI.out.skip (by omega) (by rw [← HTU.out.1, ← HTU.out.2]; exact heq2))
              clear heq2
              go_wp2_with fail
              go_region_held3 (fun w' => (w'.cell? ⟨g, (k1 + 1) * 4 + (k3 + 1) * 4, none⟩ = some (.int .i64 t2.op) ∧ w'.cell? ⟨g, (k1 + 1) * 4 + (k3 + 1) * 4 + 1, none⟩ = some (.string (bstr t2.name)) ∧ w'.cell? ⟨g, (k1 + 1) * 4 + (k3 + 1) * 4 + 2, none⟩ = some (.int .i64 t2.sort) ∧ w'.cell? ⟨g, (k1 + 1) * 4 + (k3 + 1) * 4 + 3, none⟩ = some (.slice none 0 0)) ∧
                  w'.cell? ⟨g, (k1 + 1) * 4 + k3 * 4, none⟩ = some (.int .i64 u2.op) ∧ w'.cell? ⟨g, (k1 + 1) * 4 + k3 * 4 + 1, none⟩ = some (.string (bstr u2.name)) ∧ w'.cell? ⟨g, (k1 + 1) * 4 + k3 * 4 + 2, none⟩ = some (.int .i64 u2.sort) ∧ w'.cell? ⟨g, (k1 + 1) * 4 + k3 * 4 + 3, none⟩ = some (.slice none 0 0))
                (first | (with_reducible assumption) | ((refine S8.below (w := wr.drew) ?_ hgr2 hgb.below); with_reducible assumption) | (refine ⟨⟨?_, ?_, ?_, ?_⟩, ?_, ?_, ?_, ?_⟩ <;> assumption))
                ((go_at_call 64; refine (HC2.out _ _ HF2.out).mono ?_; rintro e w2 ⟨rfl, hgb⟩))
              have hbd : Below wr.heap.size wr w2 := (Below.refl _ _).drew.trans (hgb.below.mono (Nat.le_refl _))
              have HG3 : Hid (Chg [g] w w2) := Lib.hid (HG.out.trans (Chg.of_below hbd))
              have HOZ := Lib.hid (own_below HOY.out hbd)
              clear hgb hbd c0 c1 c2 c3 d0 d1 d2 d3
              go_wp2
              go_roundw
              case measure => simp [intOf]; omega
              case rel => exact ⟨kk, k3 + 1 + 1, ys, rfl, by go_num, by omega, by omega, by omega, HI3, HOZ, HG3⟩
            · have HF2 : Hid (decide (cmp t2 u2 = 0) = false) := Lib.hid (decide_eq_false heq2)
              have HI3 : Hid (Comp L (k1 + 1 + (k3 + 1) + 1) (kk + 1) ((((ys.set (kk * 4) (.int .i64 t2.op)).set (kk * 4 + 1) (.string (bstr t2.name))).set (kk * 4 + 2) (.int .i64 t2.sort)).set (kk * 4 + 3) (.slice none 0 0))) := Lib.hid (by
                have := HI.out.keep (by have := HN.out; omega) (by rw [← HTU.out.1, ← HTU.out.2]; exact heq2)
                rw [← HTU.out.1] at this
                exact this)
              clear heq2
              go_wp2_with fail
              go_region_held3 (fun w' => (w'.cell? ⟨g, (k1 + 1) * 4 + (k3 + 1) * 4, none⟩ = some (.int .i64 t2.op) ∧ w'.cell? ⟨g, (k1 + 1) * 4 + (k3 + 1) * 4 + 1, none⟩ = some (.string (bstr t2.name)) ∧ w'.cell? ⟨g, (k1 + 1) * 4 + (k3 + 1) * 4 + 2, none⟩ = some (.int .i64 t2.sort) ∧ w'.cell? ⟨g, (k1 + 1) * 4 + (k3 + 1) * 4 + 3, none⟩ = some (.slice none 0 0)) ∧
                  w'.cell? ⟨g, (k1 + 1) * 4 + k3 * 4, none⟩ = some (.int .i64 u2.op) ∧ w'.cell? ⟨g, (k1 + 1) * 4 + k3 * 4 + 1, none⟩ = some (.string (bstr u2.name)) ∧ w'.cell? ⟨g, (k1 + 1) * 4 + k3 * 4 + 2, none⟩ = some (.int .i64 u2.sort) ∧ w'.cell? ⟨g, (k1 + 1) * 4 + k3 * 4 + 3, none⟩ = some (.slice none 0 0))
                (first | (with_reducible assumption) | ((refine S8.below (w := wr.drew) ?_ hgr2 hgb.below); with_reducible assumption) | (refine ⟨⟨?_, ?_, ?_, ?_⟩, ?_, ?_, ?_, ?_⟩ <;> assumption))
                ((go_at_call 64; refine (HC2.out _ _ HF2.out).mono ?_; rintro e w2 ⟨rfl, hgb⟩))
              have hbd : Below wr.heap.size wr w2 := (Below.refl _ _).drew.trans (hgb.below.mono (Nat.le_refl _))
              have HG3 : Hid (Chg [g] w w2) := Lib.hid (HG.out.trans (Chg.of_below hbd))
              have HOZ := Lib.hid (own_below HOY.out hbd)
              have HC4 : Hid (S8 g ((k1 + 1) * 4 + (k3 + 1) * 4) ((k1 + 1) * 4 + k3 * 4) t2 u2 w2) := Lib.hid (by with_reducible assumption)
              clear hgb hbd c0 c1 c2 c3 d0 d1 d2 d3 HC2 HF2
              obtain ⟨c0, c1, c2, c3⟩ := HC4.out.1
              obtain ⟨⟨x0, e0⟩, f0⟩ := own_get HOZ.out (i := kk * 4) (by omega)
              obtain ⟨⟨x1, e1⟩, f1⟩ := own_get HOZ.out (i := kk * 4 + 1) (by omega)
              obtain ⟨⟨x2, e2⟩, f2⟩ := own_get HOZ.out (i := kk * 4 + 2) (by omega)
              obtain ⟨⟨x3, e3⟩, f3⟩ := own_get HOZ.out (i := kk * 4 + 3) (by omega)
              have q1 : (0 : Int) ≤ (kk : Int) := by omega
              have q2 : (kk : Int) < (n : Int) := by omega
              go_wp2
              go_roundw
              case measure => simp [intOf]; omega
              case rel => exact ⟨kk + 1, k3 + 1 + 1, _, by go_num, by go_num, by omega, by omega, by omega, HI3, Lib.hid (setCell_own (setCell_own (setCell_own (setCell_own HOZ.out _ _) _ _) _ _) _ _), Lib.hid ((((HG3.out.trans (Chg.set (by simp) _)).trans (Chg.set (by simp) _)).trans (Chg.set (by simp) _)).trans (Chg.set (by simp) _))⟩
          · have hend : k1 + 1 + k2 = n := by omega
            have hkn : kk < n := by have := HI.out.lt; omega
            obtain ⟨vs, hcl⟩ := run_clear4 (P := Try.prog) wr 49 51 (.agg #[.int .i64 0, .string { data := #[] }, .int .i64 0, .slice none 0 0]) Try.underlying49 Try.zeroValue51 (by simp [Value.cells]) (by simp [Value.cells]; exact ⟨rfl, rfl, rfl, rfl⟩) g (kk * 4) (n - kk) (cap - kk)
              (fun j hj => by
                obtain ⟨⟨v, hv⟩, _⟩ := own_get HOY.out (i := kk * 4 + j) (by omega)
                rw [hv]; rfl) (fun j hj => (own_get HOY.out (i := kk * 4 + j) (by omega)).2)
            have HR : Hid (CompPost L n g cap base w (.returned (.slice (some ⟨g, 0, none⟩) kk cap)) (wr.setCells g (kk * 4) vs)) := Lib.hid (by
              have hI := HI.out
              rw [hend] at hI
              have ho := own_take HOY.out (m := kk) (by omega)
              rw [hI.low] at ho
              exact ⟨kk, hI.num, rfl, setCells_own vs _ _ ho (Nat.le_refl _), HG.out.trans (setCells_chg g vs _ _)⟩)
            have q1 : (0 : Int) ≤ (kk : Int) := by omega
            have q2 : (kk : Int) ≤ (n : Int) := by omega
            have q3 : (kk : Int) ≤ (cap : Int) := by omega
            have q4 : ¬ kk = cap := by omega
            clear hend HOY HI HG
            go_wp2
            go_ret
            exact HR.out
      · have HF : Hid (decide (cmp t u = 0) = false) := Lib.hid (decide_eq_false heq)
        have HNE : Hid (cmp (L.getD (k1 + 1) default) (L.getD (k1 + 1 - 1) default) ≠ 0) := Lib.hid (by rw [← HTU.out.1, show k1 + 1 - 1 = k1 from rfl, ← HTU.out.2]; exact heq)
        clear heq
        go_wp2_with fail
        go_region_held3 (fun w' => (w'.cell? ⟨g, (k1 + 1) * 4, none⟩ = some (.int .i64 t.op) ∧ w'.cell? ⟨g, (k1 + 1) * 4 + 1, none⟩ = some (.string (bstr t.name)) ∧ w'.cell? ⟨g, (k1 + 1) * 4 + 2, none⟩ = some (.int .i64 t.sort) ∧ w'.cell? ⟨g, (k1 + 1) * 4 + 3, none⟩ = some (.slice none 0 0)) ∧
            w'.cell? ⟨g, k1 * 4, none⟩ = some (.int .i64 u.op) ∧ w'.cell? ⟨g, k1 * 4 + 1, none⟩ = some (.string (bstr u.name)) ∧ w'.cell? ⟨g, k1 * 4 + 2, none⟩ = some (.int .i64 u.sort) ∧ w'.cell? ⟨g, k1 * 4 + 3, none⟩ = some (.slice none 0 0))
          (first | (with_reducible assumption) | ((refine S8.below (w := wr.drew) ?_ hgr hgb.below); with_reducible assumption) | (refine ⟨⟨?_, ?_, ?_, ?_⟩, ?_, ?_, ?_, ?_⟩ <;> assumption))
          ((go_at_call 64; refine (HC.out _ _ HF.out).mono ?_; rintro e w1 ⟨rfl, hgb⟩))
        have hbd : Below wr.heap.size wr w1 := (Below.refl _ _).drew.trans (hgb.below.mono (Nat.le_refl _))
        have HB1 : Hid (Below w.heap.size w w1) := Lib.hid (HB.out.trans (hbd.mono hsz))
        clear hgb hbd
        go_wp2
        go_roundw
        case measure => simp [intOf]; omega
        case rel =>
          refine ⟨k1 + 1 + 1, by go_num, by omega, by omega, Lib.hid (fun j h1 h2 => ?_), HB1⟩
          by_cases e : j = k1 + 1
          · subst e; exact HNE.out
          · exact HD.out j h1 (by omega)
    · have HD2 : Hid (dedN L n = L) := Lib.hid (by
        have := HN.out
        obtain rfl : k = n := by omega
        rw [dedN_all L k (by omega) HD.out, List.take_of_length_le (by omega)])
      go_wp2
      go_ret
      exact ⟨n, by rw [HD2.out]; exact HN.out, rfl, by rw [HD2.out]; exact HO1.out, Chg.of_below HB.out⟩
end Go.Proofs.Ytejkkdnjdfehjaa.termcf
