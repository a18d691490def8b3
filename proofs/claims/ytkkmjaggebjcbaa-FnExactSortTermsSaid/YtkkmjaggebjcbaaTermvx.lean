/-
  CONTRACTS OF THE PROGRAM'S VariablesOf AND IsGround.
-/
import Derived.Test.YtkkmjaggebjcbaaTermcf
import Derived.Test.YtkkmjaggebjcbaaTermso
namespace Go.Proofs.Ytkkmjaggebjcbaa.termvx
open Go.ChangeShapes Go.WideShapes Go.ChangeAt Go.RowKit
open mem dec rowl trm trmv terml termb termt termx termz termro termsd termvr termcf termso

theorem flat_ext {V : List TermM} {xs : List Value} (hl : xs.length = V.length * 4) (h : ∀ j, j < V.length → Cells4 xs j (V.getD j default) (.slice none 0 0)) : xs = flatV V := by
  apply List.ext_getElem?
  intro p
  by_cases hp : p < V.length * 4
  · obtain ⟨a, b, c, d⟩ := h (p / 4) (by omega)
    obtain ⟨a', b', c', d'⟩ := flatV_at (l := V) (j := p / 4) (by omega)
    have hpm : p = p / 4 * 4 + p % 4 := by omega
    rw [hpm]
    match p % 4, (show p % 4 < 4 by omega) with
    | 0, _ => exact a.trans a'.symm
    | 1, _ => exact b.trans b'.symm
    | 2, _ => exact c.trans c'.symm
    | 3, _ => exact d.trans d'.symm
  · rw [List.getElem?_eq_none (by omega), List.getElem?_eq_none (by rw [flatV_len]; omega)]
def Flat (x : TermM) : Prop := x.args = [] ∧ Bnd x
/-- what the sort leaves of a row of variables -/
def SortPost (V : List TermM) (k g cap base : Nat) (w : World) (e : Ending) (w' : World) : Prop := e = .returned (.tuple #[]) ∧ ∃ V' : List TermM, V'.Perm V ∧ Srt V' ∧ w'.ownsRow base 26 4 (.slice (some ⟨g, 0, none⟩) k cap) k (flatV V') ∧ Chg [g] w w'
theorem sortV_any (V : List TermM) (k g cap base : Nat) (w : World) (hk : k = V.length) (hk30 : k ≤ 1073741824) (hV : ∀ x ∈ V, Flat x) (ho : w.ownsRow base 26 4 (.slice (some ⟨g, 0, none⟩) k cap) k (flatV V)) :
    Calls Try.prog 23 #[.slice (some ⟨g, 0, none⟩) k cap, .func (.func 8) #[] #[]] w (SortPost V k g cap base w) := by
  have mk : ∀ x ∈ V, ∃ e : Elt 1 (g + 1) w, e.t = x ∧ e.v = .slice none 0 0 := fun x hx =>
    ⟨⟨x, .slice none 0 0, by rw [(hV x hx).1]; exact HasR.nil _ _ _ (by unfold maxLen; omega) _, (hV x hx).2, by rw [(hV x hx).1]; simp [sizes]⟩, rfl, rfl⟩
  obtain ⟨l, hl, hlv⟩ : ∃ l : List (Elt 1 (g + 1) w), l.map (·.t) = V ∧ ∀ e ∈ l, e.v = .slice none 0 0 := by
    clear ho hk
    induction V with
    | nil => exact ⟨[], rfl, fun e he => by simp at he⟩
    | cons x V ih =>
      obtain ⟨l, h1, h2⟩ := ih (fun y hy => hV y (by simp [hy])) (fun y hy => mk y (by simp [hy]))
      obtain ⟨e, h3, h4⟩ := mk x (by simp)
      refine ⟨e :: l, by rw [List.map_cons, h1, h3], fun y hy => ?_⟩
      rcases List.mem_cons.1 hy with rfl | hy
      · exact h4
      · exact h2 y hy
  have hsz : l.toArray.size = k := by rw [List.size_toArray, hk, ← hl, List.length_map]
  have hat : ∀ (d : Array (Elt 1 (g + 1) w)) j (hj : j < d.size), d[j]! = d[j] := fun d j hj => getElem!_pos d j hj
  have hc := sort_any (N := 1) (lo := g + 1) (cap := cap) (base := base) w l.toArray (Nat.lt_succ_self g) (flatV V) (by rw [hsz]; exact ho) (fun j hj => by
    have hjl : j < l.length := by simpa using hj
    have hjv : j < V.length := by rw [← hl, List.length_map]; exact hjl
    rw [hat _ _ hj]
    have h1 := flatV_at hjv
    have e1 : V.getD j default = l.toArray[j].t := by
      rw [getD_at hjv]; simp [← hl]
    have e2 : l.toArray[j].v = .slice none 0 0 := hlv _ (by simp)
    rw [e1] at h1
    rw [e2]; exact h1) (by rw [hsz]; omega)
  rw [hsz] at hc
  refine hc.mono ?_
  rintro e w' ⟨rfl, d', xs', h1, h2, h3, h4, h5, h6⟩
  have hV' : (d'.toList.map (·.t)).length = k := by simp [h1]
  refine ⟨rfl, d'.toList.map (·.t), ?_, ?_, ?_, h6⟩
  · rw [← hl]; exact (h2.map _)
  · refine List.pairwise_iff_getElem.2 (fun i j hi hj hij => ?_)
    have h := h3 i j hij (by omega)
    rw [hat d' i (by omega), hat d' j (by omega)] at h
    simpa using h
  · have hx : xs' = flatV (d'.toList.map (·.t)) := by
      refine flat_ext (by rw [h4.1, hV']) (fun j hj => ?_)
      have hjk : j < k := by omega
      have h := h5 j hjk
      rw [hat d' j (by omega)] at h
      have e2 : d'[j].v = .slice none 0 0 := hlv _ (by
        have := (h2.mem_iff (a := d'[j])).1 (by simp)
        simpa using this)
      rw [e2] at h
      rw [getD_at hj]
      simpa using h
    rw [← hx]; exact h4
theorem own_mono {w : World} {base base' n : Nat} {e : TypeId} {size : Nat} {v : Value} {xs : List Value} (h : w.ownsRow base e size v n xs) (hb : base' ≤ base) : w.ownsRow base' e size v n xs := by
  refine ⟨h.1, ?_⟩
  rcases h.2 with h2 | ⟨g, cap, cur, hv, hg, r⟩
  · exact .inl h2
  · exact .inr ⟨g, cap, cur, hv, Nat.le_trans hb hg, r⟩
end Go.Proofs.Ytkkmjaggebjcbaa.termvx
