/-
  THE LIBRARY'S Clone AT A ROW OF TERMS: the row is the call's own, the elements' arguments are shared.
-/
import Derived.Test.YtiilamngcoegiaaTermop
import Derived.Lib.SliceRun
namespace Go.Proofs.Ytiilamngcoegiaa.termcl
open Go.ChangeShapes Go.WideShapes Go.ChangeAt Go.RowKit
open mem dec rowl trm trmv terml termb termt termx

/-- four cells an element -/
def four (L : List TermM) (vs : Nat → Value) (j : Nat) : List Value := [.int .i64 (L.getD j default).op, .string (bstr (L.getD j default).name), .int .i64 (L.getD j default).sort, vs j]
def fours (L : List TermM) (vs : Nat → Value) (m : Nat) : List Value := (List.range m).flatMap (four L vs)
theorem fours_succ (L : List TermM) (vs : Nat → Value) (m : Nat) : fours L vs (m + 1) = fours L vs m ++ four L vs m := by
  unfold fours
  rw [List.range_succ, List.flatMap_append]
  simp
theorem fours_len (L : List TermM) (vs : Nat → Value) : ∀ m, (fours L vs m).length = m * 4
  | 0 => rfl
  | m + 1 => by rw [fours_succ, List.length_append, fours_len L vs m]; simp [four]; omega
theorem fours_at (L : List TermM) (vs : Nat → Value) : ∀ (m j : Nat), j < m → Cells4 (fours L vs m) j (L.getD j default) (vs j)
  | 0, j, h => by omega
  | m + 1, j, h => by
    have hl := fours_len L vs m
    unfold Cells4
    rw [fours_succ]
    by_cases hj : j < m
    · obtain ⟨a, b, c, d⟩ := fours_at L vs m j hj
      exact ⟨by rw [List.getElem?_append_left (by omega)]; exact a, by rw [List.getElem?_append_left (by omega)]; exact b, by rw [List.getElem?_append_left (by omega)]; exact c, by rw [List.getElem?_append_left (by omega)]; exact d⟩
    · obtain rfl : j = m := by omega
      refine ⟨?_, ?_, ?_, ?_⟩
      · rw [List.getElem?_append_right (by omega), hl, Nat.sub_self]; rfl
      · rw [List.getElem?_append_right (by omega), hl, Nat.add_sub_cancel_left]; rfl
      · rw [List.getElem?_append_right (by omega), hl, Nat.add_sub_cancel_left]; rfl
      · rw [List.getElem?_append_right (by omega), hl, Nat.add_sub_cancel_left]; rfl
/-- the elements' argument values -/
theorem args_of {n lo : Nat} {w : World} {A : Option Addr} {m c : Nat} {L : List TermM} (h : HasTs (n + 1) lo w (.slice A m c) L) :
    ∃ vs : Nat → Value, (∀ j, j < m → HasTs n lo w (vs j) (L.getD j default).args ∧ Bnd (L.getD j default)) ∧ ∀ g o, A = some ⟨g, o, none⟩ → ∀ j x, (fours L vs m)[j]? = some x → w.cell? ((⟨g, o, none⟩ : Addr).add j) = some x := by
  have key : ∀ j, j < m → ∃ va, (HasTs n lo w va (L.getD j default).args ∧ Bnd (L.getD j default)) ∧ ∀ g o, A = some ⟨g, o, none⟩ → w.cell? ⟨g, o + j * 4, none⟩ = some (.int .i64 (L.getD j default).op) ∧ w.cell? ⟨g, o + j * 4 + 1, none⟩ = some (.string (bstr (L.getD j default).name)) ∧ w.cell? ⟨g, o + j * 4 + 2, none⟩ = some (.int .i64 (L.getD j default).sort) ∧ w.cell? ⟨g, o + j * 4 + 3, none⟩ = some va := by
    intro j hj
    obtain ⟨k, g, o, A2, c2, hk, hA, _, _, c0, c1, c2', c3, hh, hb⟩ := term_at h hj
    obtain rfl : k = n := by omega
    refine ⟨_, ⟨hh, hb⟩, fun g' o' e => ?_⟩
    rw [hA] at e
    simp only [Option.some.injEq, Addr.mk.injEq, and_true] at e
    obtain ⟨rfl, rfl⟩ := e
    exact ⟨c0, c1, c2', c3⟩
  refine ⟨fun j => if hj : j < m then Classical.choose (key j hj) else undef, fun j hj => ?_, fun g o hA p x hx => ?_⟩
  · simp only [hj, dif_pos]
    exact (Classical.choose_spec (key j hj)).1
  · have hlt : p < m * 4 := by have := (List.getElem?_eq_some_iff.1 hx).1; rwa [fours_len] at this
    obtain ⟨q, i, rfl, hi⟩ : ∃ q i, p = q * 4 + i ∧ i < 4 := ⟨p / 4, p % 4, by omega, by omega⟩
    have hj : q < m := by omega
    obtain ⟨a, b, c, d⟩ := fours_at L (fun j => if hj : j < m then Classical.choose (key j hj) else undef) m q hj
    simp only [hj, dif_pos] at d
    obtain ⟨e0, e1, e2, e3⟩ := (Classical.choose_spec (key q hj)).2 g o hA
    rw [Addr.add_lit]
    match i, hi with
    | 0, _ => rw [Nat.add_zero] at hx ⊢; rw [a] at hx; injection hx with hx; subst hx; exact e0
    | 1, _ => rw [b] at hx; injection hx with hx; subst hx; rw [← Nat.add_assoc]; exact e1
    | 2, _ => rw [c] at hx; injection hx with hx; subst hx; rw [← Nat.add_assoc]; exact e2
    | 3, _ => rw [d] at hx; injection hx with hx; subst hx; rw [← Nat.add_assoc]; exact e3
theorem fours_one (L : List TermM) (vs : Nat → Value) (m : Nat) (h : ∀ j, j < m → (vs j).oneCell' = true) : ∀ x ∈ fours L vs m, x.oneCell' = true := by
  intro x hx
  obtain ⟨j, hj, hx⟩ := List.mem_flatMap.1 hx
  simp only [four, List.mem_cons, List.not_mem_nil, or_false] at hx
  rcases hx with rfl | rfl | rfl | rfl
  · rfl
  · rfl
  · rfl
  · exact h j (by simpa using hj)
/-- what a clone leaves -/
def ClonePost (n lo : Nat) (wl : World) (L : List TermM) (w : World) (e : Ending) (w' : World) : Prop := ∃ (v : Value) (vs : Nat → Value), e = .returned v ∧ w'.ownsRow w.heap.size 40 4 v L.length (fours L vs L.length) ∧ (∀ j, j < L.length → HasTs n lo wl (vs j) (L.getD j default).args ∧ Bnd (L.getD j default)) ∧ Below w.heap.size w w'
set_option maxRecDepth 20000 in
/-- the row may be read in an older world -/
theorem clone_any {n lo : Nat} {v : Value} {L : List TermM} {wl w : World} (hbl : Below wl.heap.size wl w) (h : HasTs (n + 1) lo wl v L) (hl : L.length ≤ 1073741824) :
    Calls Try.prog 57 #[v] w (ClonePost n lo wl L w) := by
  obtain ⟨A, c, rfl, h⟩ := HasR.shape h rfl
  obtain ⟨j0, hij, hy0, hy1, hy2⟩ := info_parts info_term
  obtain ⟨vs, h1, h2⟩ := args_of h
  have H1 := Lib.hid h1
  have HL := Lib.hid (fours_len L vs L.length)
  have HO := Lib.hid (fours_one L vs L.length (fun j hj => by obtain ⟨A', c', e, _⟩ := HasR.shape (h1 j hj).1 rfl; rw [e]; rfl))
  cases A with
  | none =>
    have h0 : L.length = 0 := by
      by_cases hz : L.length = 0
      · exact hz
      · obtain ⟨_, _, _, _, _, _, hA, _⟩ := term_at h (j := 0) (by omega)
        cases hA
    have HR : Hid (ClonePost n lo wl L w (.returned (.slice none 0 0)) w) := Lib.hid ⟨_, vs, rfl, by rw [h0]; exact ⟨rfl, .inl ⟨rfl, rfl⟩⟩, H1.out, Below.refl _ _⟩
    have he : ∀ W, (binOp .eql 29 (.slice none L.length c) (.slice none 0 0)).run Try.prog W = .ok (.bool true) W := fun W => Lib.run_eql_slice_nil W 29 40 none L.length c 0 0 Try.underlying29
    clear h h1 h2 H1 HL HO h0 hbl
    go_enter Try.func57, Try.ntmps57
    go_wp2
    go_ret
    exact HR.out
  | some a =>
    obtain ⟨g, o, sp⟩ := a
    obtain ⟨q, hq⟩ : ∃ q, q = L.length := ⟨_, rfl⟩
    have hsp : q ≠ 0 → sp = none := fun hz => by
      obtain ⟨_, g', o', _, _, _, hA, _⟩ := term_at h (j := 0) (by omega)
      simp only [Option.some.injEq, Addr.mk.injEq] at hA
      exact hA.2.2
    have H2 : Hid (∀ (j : Nat) (x : Value), (fours L vs q)[j]? = some x → w.cell? ((⟨g, o, sp⟩ : Addr).add j) = some x) := Lib.hid (fun j x hx => by
      have hlt := (List.getElem?_eq_some_iff.1 hx).1
      rw [fours_len] at hlt
      obtain rfl := hsp (by omega)
      have h3 := h2 g o rfl j x (by rw [← hq]; exact hx)
      exact (hbl.cell (World.block_lt_of_cell? wl _ h3)).trans h3)
    have HQ := Lib.hid hq
    rw [← hq] at HL HO hl ⊢
    clear h h1 h2 hsp hq hbl
    have he : ∀ W, (binOp .eql 29 (.slice (some ⟨g, o, sp⟩) q c) (.slice none 0 0)).run Try.prog W = .ok (.bool false) W := fun W => Lib.run_eql_slice_nil W 29 40 (some ⟨g, o, sp⟩) q c 0 0 Try.underlying29
    go_enter Try.func57, Try.ntmps57
    have hfr : (w.alloc (.cells #[] 40)).ownsRow w.heap.size 40 4 (.slice (some ⟨w.heap.size, 0, none⟩) 0 0) 0 [] := World.ownsRow_lit (e := 40) (size := 4) w #[] 0 (Nat.le_refl _) (by unfold maxLen; omega) rfl
    have HF := Lib.hid hfr
    clear hfr
    go_wp2_with (at_builtin; refine wpList_append_d rfl _ _ _ rfl w.heap.size 40 j0 _ 4 56 Try.underlying29 hij hy0 hy1 hy2 rfl (by omega) w.heap.size 0 0 [] rfl HF.out ⟨g, o, sp⟩ q c (fours L vs q) rfl HL.out (fun j x hx => by
      have hc := H2.out j x hx
      exact (((Below.refl w.heap.size w).alloc (Nat.le_refl _) _).cell (World.block_lt_of_cell? w _ hc)).trans hc) HO.out (by unfold maxLen; omega) (by omega) (by simp) ?_; intro g4 cap4 w4 hown4 hgr4 hg4 hlt4 hdr4)
    have HR : Hid (ClonePost n lo wl L w (.returned (.slice (some ⟨g4, 0, none⟩) (0 + q) cap4)) w4) := Lib.hid (by
      refine ⟨_, vs, rfl, ?_, H1.out, ((Below.refl _ _).alloc (Nat.le_refl _) _).grown hgr4 (by simp) (by intro k hk; cases hk; exact Nat.le_refl _)⟩
      rw [Nat.zero_add] at hown4 ⊢
      rw [← HQ.out]
      exact hown4)
    clear hown4 hgr4 hg4 hdr4
    rw [Nat.zero_add] at HR
    go_wp2
    go_ret
    exact HR.out
end Go.Proofs.Ytiilamngcoegiaa.termcl
