/-
  THE LIBRARY'S CompactFunc AT A ROW OF TERMS WITHOUT ARGUMENTS, OF ONE'S OWN.
-/
import Derived.Test.YtiilamngcoegiaaTermvr
import Derived.Laws.IdiomCopy
import Derived.IntWalk
namespace Go.Proofs.Ytiilamngcoegiaa.termcf
open Go.ChangeShapes Go.WideShapes Go.ChangeAt Go.RowKit
open mem dec rowl trm trmv terml termb termt termx termz termro termsd termvr

/-- of the first i elements: those that differ from the one before -/
noncomputable def dedN (L : List TermM) : Nat → List TermM
  | 0 => []
  | i + 1 => if i = 0 ∨ cmp (L.getD i default) (L.getD (i - 1) default) ≠ 0 then dedN L i ++ [L.getD i default] else dedN L i
theorem dedN_le (L : List TermM) : ∀ i, (dedN L i).length ≤ i
  | 0 => Nat.le_refl _
  | i + 1 => by
    have := dedN_le L i
    rw [dedN]
    split
    · simp; omega
    · omega
theorem dedN_all (L : List TermM) : ∀ k, k ≤ L.length → (∀ j, 1 ≤ j → j < k → cmp (L.getD j default) (L.getD (j - 1) default) ≠ 0) → dedN L k = L.take k
  | 0, _, _ => by simp [dedN]
  | k + 1, hk, h => by
    have ih := dedN_all L k (by omega) (fun j h1 h2 => h j h1 (by omega))
    have hc : k = 0 ∨ cmp (L.getD k default) (L.getD (k - 1) default) ≠ 0 := by
      rcases Nat.eq_zero_or_pos k with h0 | h0
      · exact .inl h0
      · exact .inr (h k h0 (by omega))
    rw [dedN, if_pos hc, ih, List.take_succ_eq_append_getElem (by omega), getD_at (by omega)]
theorem dedN_mem (L : List TermM) : ∀ i, i ≤ L.length → ∀ x, x ∈ dedN L i ↔ ∃ j, j < i ∧ x = L.getD j default
  | 0, _, x => by simp [dedN]
  | i + 1, hi, x => by
    have ih := dedN_mem L i (by omega) x
    rw [dedN]
    split
    · rw [List.mem_append, ih, List.mem_singleton]
      constructor
      · rintro (⟨j, hj, e⟩ | e)
        · exact ⟨j, by omega, e⟩
        · exact ⟨i, by omega, e⟩
      · rintro ⟨j, hj, e⟩
        by_cases hji : j = i
        · subst hji; exact .inr e
        · exact .inl ⟨j, by omega, e⟩
    · rename_i hc
      have h0 : cmp (L.getD i default) (L.getD (i - 1) default) = 0 := by
        by_cases h : cmp (L.getD i default) (L.getD (i - 1) default) = 0
        · exact h
        · exact absurd (.inr h) hc
      have hi0 : i ≠ 0 := fun e => hc (.inl e)
      have he := (cmp_zero _ _).1 h0
      rw [ih]
      constructor
      · rintro ⟨j, hj, e⟩; exact ⟨j, by omega, e⟩
      · rintro ⟨j, hj, e⟩
        by_cases hji : j = i
        · subst hji; exact ⟨j - 1, by omega, by rw [e, he]⟩
        · exact ⟨j, by omega, e⟩
theorem dedN_asc (L : List TermM) (hs : Srt L) : ∀ i, i ≤ L.length → Asc (dedN L i) ∧ ∀ x ∈ dedN L i, cmp x (L.getD (i - 1) default) ≤ 0
  | 0, _ => by simp [dedN, Asc]
  | i + 1, hi => by
    obtain ⟨h1, h2⟩ := dedN_asc L hs i (by omega)
    have hle : i ≠ 0 → cmp (L.getD (i - 1) default) (L.getD i default) ≤ 0 := fun h0 => by
      rw [getD_at (show i - 1 < L.length by omega), getD_at (show i < L.length by omega)]
      exact List.pairwise_iff_getElem.1 hs (i - 1) i (by omega) (by omega) (by omega)
    rw [Nat.add_sub_cancel, dedN]
    split
    · rename_i hc
      have hlt : ∀ x ∈ dedN L i, cmp x (L.getD i default) < 0 := fun x hx => by
        have hi0 : i ≠ 0 := fun e => by subst e; simp [dedN] at hx
        have hne := hc.resolve_left hi0
        have hsw := cmp_swap (L.getD (i - 1) default) (L.getD i default)
        have h3 := hle hi0
        have h4 := h2 x hx
        have h5 := cmp_trans _ _ _ h4 h3
        have : cmp x (L.getD i default) ≠ 0 := fun e => by
          have e' := (cmp_zero _ _).1 e
          subst e'
          omega
        omega
      refine ⟨List.pairwise_append.2 ⟨h1, List.pairwise_singleton _ _, fun a ha b hb => ?_⟩, fun x hx => ?_⟩
      · rw [List.mem_singleton] at hb; subst hb; exact hlt a ha
      · rcases List.mem_append.1 hx with hx | hx
        · have := hlt x hx; omega
        · rw [List.mem_singleton] at hx; subst hx; rw [cmp_self]; omega
    · rename_i hc
      have hi0 : i ≠ 0 := fun e => hc (.inl e)
      exact ⟨h1, fun x hx => cmp_trans _ _ _ (h2 x hx) (hle hi0)⟩
/-- a cell of a row of variables -/
theorem flatV_take (L : List TermM) (k : Nat) : (flatV L).take (k * 4) = flatV (L.take k) := by
  induction L generalizing k with
  | nil => simp [flatV]
  | cons a l ih =>
    cases k with
    | zero => simp [flatV]
    | succ k => rw [List.take_succ_cons, flatV, flatV, show (k + 1) * 4 = k * 4 + 4 by omega]; simp [List.take_succ_cons, ih]
/-- as the row stands when i elements have been looked at -/
structure Comp (L : List TermM) (i kk : Nat) (ys : List Value) : Prop where
  len : ys.length = L.length * 4
  low : ys.take (kk * 4) = flatV (dedN L i)
  num : kk = (dedN L i).length
  lt : kk < i
  high : ∀ p, (i - 1) * 4 ≤ p → ys[p]? = (flatV L)[p]?
theorem Comp.at {L : List TermM} {i kk : Nat} {ys : List Value} (h : Comp L i kk ys) {j : Nat} (hj : j < L.length) (hi : i - 1 ≤ j) : Cells4 ys j (L.getD j default) (.slice none 0 0) := by
  obtain ⟨a, b, c, d⟩ := flatV_at hj
  exact ⟨(h.high _ (by omega)).trans a, (h.high _ (by omega)).trans b, (h.high _ (by omega)).trans c, (h.high _ (by omega)).trans d⟩
theorem Comp.skip {L : List TermM} {i kk : Nat} {ys : List Value} (h : Comp L i kk ys) (h0 : 0 < i) (he : cmp (L.getD i default) (L.getD (i - 1) default) = 0) : Comp L (i + 1) kk ys := by
  have hd : dedN L (i + 1) = dedN L i := by rw [dedN, if_neg (by rintro (h | h); omega; exact h he)]
  exact ⟨h.len, by rw [hd]; exact h.low, by rw [hd]; exact h.num, by have := h.lt; omega, fun p hp => h.high p (by omega)⟩
theorem Comp.keep {L : List TermM} {i kk : Nat} {ys : List Value} (h : Comp L i kk ys) (hi : i < L.length) (he : cmp (L.getD i default) (L.getD (i - 1) default) ≠ 0) :
    Comp L (i + 1) (kk + 1) ((((ys.set (kk * 4) (.int .i64 (L.getD i default).op)).set (kk * 4 + 1) (.string (bstr (L.getD i default).name))).set (kk * 4 + 2) (.int .i64 (L.getD i default).sort)).set (kk * 4 + 3) (.slice none 0 0)) := by
  have hlt := h.lt
  have hlen := h.len
  have hd : dedN L (i + 1) = dedN L i ++ [L.getD i default] := by rw [dedN, if_pos (.inr he)]
  refine ⟨by simp [hlen], ?_, by rw [hd, List.length_append, ← h.num]; rfl, by omega, fun p hp => ?_⟩
  · rw [hd, flatV_append, ← h.low]
    apply List.ext_getElem?
    intro p
    have hl1 : (ys.take (kk * 4)).length = kk * 4 := by rw [List.length_take]; omega
    by_cases hp : p < kk * 4
    · rw [List.getElem?_take_of_lt (by omega), List.getElem?_append_left (by omega), List.getElem?_take_of_lt hp]
      rw [List.getElem?_set_ne (by omega), List.getElem?_set_ne (by omega), List.getElem?_set_ne (by omega), List.getElem?_set_ne (by omega)]
    · rw [List.getElem?_append_right (by omega), hl1]
      by_cases hp4 : p < kk * 4 + 4
      · rw [List.getElem?_take_of_lt (by omega)]
        obtain ⟨q, rfl⟩ : ∃ q, p = kk * 4 + q := ⟨p - kk * 4, by omega⟩
        rw [Nat.add_sub_cancel_left]
        match q, (show q < 4 by omega) with
        | 0, _ => rw [List.getElem?_set_ne (by omega), List.getElem?_set_ne (by omega), List.getElem?_set_ne (by omega), Nat.add_zero, List.getElem?_set_self (by omega)]; rfl
        | 1, _ => rw [List.getElem?_set_ne (by omega), List.getElem?_set_ne (by omega), List.getElem?_set_self (by simp; omega)]; rfl
        | 2, _ => rw [List.getElem?_set_ne (by omega), List.getElem?_set_self (by simp; omega)]; rfl
        | 3, _ => rw [List.getElem?_set_self (by simp; omega)]; rfl
      · rw [List.getElem?_take_eq_none (by omega)]
        symm
        exact List.getElem?_eq_none (by show _ ≤ _; simp only [flatV, List.length_cons, List.length_nil]; omega)
  · rw [List.getElem?_set_ne (by omega), List.getElem?_set_ne (by omega), List.getElem?_set_ne (by omega), List.getElem?_set_ne (by omega)]
    exact h.high p (by omega)
theorem Comp.start {L : List TermM} {k : Nat} (h : ∀ j, 1 ≤ j → j < k → cmp (L.getD j default) (L.getD (j - 1) default) ≠ 0) (hk : 0 < k) (hlt : k < L.length) (he : cmp (L.getD k default) (L.getD (k - 1) default) = 0) : Comp L (k + 1) k (flatV L) := by
  have hd : dedN L (k + 1) = L.take k := by rw [dedN, if_neg (by rintro (h | h); omega; exact h he)]; exact dedN_all L k (by omega) h
  exact ⟨flatV_len L, by rw [hd, flatV_take], by rw [hd, List.length_take]; omega, by omega, fun p _ => rfl⟩
/-- 'clear(s)' on a slice of elements of four cells -/
theorem run_clear4 {P : Program} (w : World) (t e : TypeId) (z : Value) (ht : P.underlying t = some (.slice e)) (hv : ∀ w, (zeroValue e).run P w = .ok z w) (hz : z.cells.size = 4) (h1 : ∀ v ∈ z.cells.toList, v.oneCell' = true) (b o n c : Nat)
    (hc : ∀ j, j < n * 4 → (w.cell? ⟨b, o + j, none⟩).isSome = true) (hf : ∀ j, j < n * 4 → w.frozen? ⟨b, o + j, none⟩ = false) :
    ∃ vs : List Value, ∀ ty, (Builtin.clear_ #[t] ty #[.slice (some ⟨b, o, none⟩) n c]).run P w = .ok (.tuple #[]) (w.setCells b o vs) := by
  have hlen : (Builtin.zeroCells z.cells n).toList.length = n * 4 := by simp [Builtin.zeroCells, hz]
  have hst := run_storeCells_cells (P := P) b o (Builtin.zeroCells z.cells n).toList 0 w (by rw [hlen]; simpa using hc) (by rw [hlen]; simpa using hf) (by
    intro v hv'
    simp only [Builtin.zeroCells, Array.toList_map, List.mem_map, Array.toList_range, List.mem_range] at hv'
    obtain ⟨i, _, rfl⟩ := hv'
    refine h1 _ ?_
    rw [getElem!_pos _ _ (by rw [hz]; exact Nat.mod_lt _ (by omega))]
    simp)
  simp only [Nat.add_zero] at hst
  cases n with
  | zero => exact ⟨[], fun ty => by simp [Builtin.clear_, run_underlying ht, World.setCells]⟩
  | succ m => exact ⟨(Builtin.zeroCells z.cells (m + 1)).toList, fun ty => by simp [Builtin.clear_, run_underlying ht, hv, hst]⟩
theorem setCells_own {base n g cap size : Nat} {e : TypeId} {xs : List Value} : ∀ (vs : List Value) (o : Nat) (w : World), w.ownsRow base e size (.slice (some ⟨g, 0, none⟩) n cap) n xs → n * size ≤ o → (w.setCells g o vs).ownsRow base e size (.slice (some ⟨g, 0, none⟩) n cap) n xs
  | [], _, _, h, _ => h
  | v :: vs, o, w, h, ho => by
    have h' := setCell_own h o v
    rw [List.set_eq_of_length_le (by have := h.1; omega)] at h'
    exact setCells_own vs (o + 1) _ h' (by omega)
theorem setCells_chg (g : Nat) : ∀ (vs : List Value) (o : Nat) (w : World), Chg [g] w (w.setCells g o vs)
  | [], _, w => Chg.refl _ w
  | v :: vs, o, w => (Chg.set (by simp) v).trans (setCells_chg g vs (o + 1) _)
/-- what it leaves -/
def CompPost (L : List TermM) (n g cap base : Nat) (w : World) (e : Ending) (w' : World) : Prop := ∃ m, m = (dedN L n).length ∧ e = .returned (.slice (some ⟨g, 0, none⟩) m cap) ∧
  w'.ownsRow base 40 4 (.slice (some ⟨g, 0, none⟩) m cap) m (flatV (dedN L n)) ∧ Chg [g] w w'
end Go.Proofs.Ytiilamngcoegiaa.termcf
