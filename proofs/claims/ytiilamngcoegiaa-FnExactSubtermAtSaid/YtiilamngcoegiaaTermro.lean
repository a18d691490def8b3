/-
  WALKS THAT LEAVE THE TREE AS IT IS: what is asked of the function at the nodes, in terms of the tree alone.
-/
import Derived.Test.YtiilamngcoegiaaTermz
namespace Go.Proofs.Ytiilamngcoegiaa.termro
open Go.ChangeShapes Go.WideShapes Go.ChangeAt Go.RowKit
open mem dec rowl trm trmv terml termb termt termx termz

/-- pending terms with their depths -/
abbrev Pend := List (TermM × Nat)
noncomputable def sizeP : Pend → Nat
  | [] => 0
  | p :: T => size p.1 + sizeP T
/-- the node at this place reads as this term -/
def EntOk (N lo : Nat) (W : World) (e : Ent) (p : TermM × Nat) : Prop := e.2.2 = p.2 ∧ p.2 + depth p.1 ≤ 1073741824 ∧ e.1 < W.heap.size ∧ W.cell? ⟨e.1, e.2.1, none⟩ = some (.int .i64 p.1.op) ∧ W.cell? ⟨e.1, e.2.1 + 1, none⟩ = some (.string (bstr p.1.name)) ∧
  W.cell? ⟨e.1, e.2.1 + 2, none⟩ = some (.int .i64 p.1.sort) ∧ ∃ v, W.cell? ⟨e.1, e.2.1 + 3, none⟩ = some v ∧ HasTs N lo W v p.1.args ∧ Bnd p.1
def AllE (Q : Ent → TermM × Nat → Prop) : List Ent → Pend → Prop
  | [], [] => True
  | e :: L, p :: T => Q e p ∧ AllE Q L T
  | _, _ => False
theorem AllE.append {Q : Ent → TermM × Nat → Prop} : ∀ {L M : List Ent} {T U : Pend}, AllE Q L T → AllE Q M U → AllE Q (L ++ M) (T ++ U)
  | [], _, [], _, _, h => h
  | _ :: _, _, _ :: _, _, ⟨a, b⟩, h => ⟨a, AllE.append b h⟩
  | [], _, _ :: _, _, h, _ => h.elim
  | _ :: _, _, [], _, h, _ => h.elim
theorem AllE.len {Q : Ent → TermM × Nat → Prop} : ∀ {L : List Ent} {T : Pend}, AllE Q L T → L.length = T.length
  | [], [], _ => rfl
  | _ :: _, _ :: _, ⟨_, b⟩ => by rw [List.length_cons, List.length_cons, AllE.len b]
  | [], _ :: _, h => h.elim
  | _ :: _, [], h => h.elim
/-- the arguments of a node, the last one first -/
def kidsP (t : TermM) (d : Nat) : Pend := (t.args.map fun a => (a, d + 1)).reverse
theorem sizeP_append : ∀ T U : Pend, sizeP (T ++ U) = sizeP T + sizeP U
  | [], U => by simp [sizeP]
  | p :: T, U => by simp only [List.cons_append, sizeP, sizeP_append T U]; omega
theorem sizeP_kids (t : TermM) (d : Nat) : sizeP (kidsP t d) = sizes t.args := by
  unfold kidsP
  induction t.args with
  | nil => rfl
  | cons a l ih => rw [List.map_cons, List.reverse_cons, sizeP_append, ih]; simp only [sizeP, sizes, List.map_cons, List.sum_cons]; omega
theorem size_eq (t : TermM) : size t = 1 + sizes t.args := by cases t; exact size_mk _ _ _ _
theorem depth_eq (t : TermM) : depth t = depths t.args + 1 := by cases t; exact depth_mk _ _ _ _
theorem depth_mem {l : List TermM} {a : TermM} (h : a ∈ l) : depth a ≤ depths l := by
  induction l with
  | nil => simp at h
  | cons b l ih =>
    have e : depths (b :: l) = max (depth b) (depths l) := rfl
    rcases List.mem_cons.1 h with rfl | h
    · omega
    · have := ih h; omega
theorem length_le_sizeP : ∀ T : Pend, T.length ≤ sizeP T
  | [] => Nat.le_refl _
  | p :: T => by have := length_le_sizeP T; have := size_pos p.1; simp only [List.length_cons, sizeP]; omega
theorem allE_kids {N lo : Nat} {W : World} {A : Option Addr} {m c : Nat} {l : List TermM} {d : Nat} (h : HasTs N lo W (.slice A m c) l) (hd : d + 1 + depths l ≤ 1073741824) :
    ∃ g o, (m ≠ 0 → A = some ⟨g, o, none⟩) ∧ AllE (EntOk N lo W) (kids g o (d + 1) m) ((l.map fun a => (a, d + 1)).reverse) := by
  have hm := h.len.1
  by_cases h0 : m = 0
  · subst h0
    have : l = [] := List.eq_nil_of_length_eq_zero hm.symm
    subst this
    exact ⟨0, 0, fun h => absurd rfl h, trivial⟩
  · obtain ⟨k, g, o, A2, c2, hk, rfl, _⟩ := term_at h (j := 0) (by omega)
    refine ⟨g, o, fun _ => rfl, ?_⟩
    have key : ∀ q, q ≤ m → AllE (EntOk N lo W) (kids g o (d + 1) q) (((l.take q).map fun a => (a, d + 1)).reverse) := by
      intro q
      induction q with
      | zero => intro _; simp [kids, AllE]
      | succ q ih =>
        intro hq
        obtain ⟨k', g', o', A3, c3, hk', eA, _, hg', c0, c1, c2', c3', hh, hb⟩ := term_at h (j := q) (by omega)
        simp only [Option.some.injEq, Addr.mk.injEq, and_true] at eA
        obtain ⟨rfl, rfl⟩ := eA
        have hql : q < l.length := by omega
        rw [List.take_succ_eq_append_getElem hql, List.map_append, List.reverse_append]
        simp only [List.map_cons, List.map_nil, List.reverse_cons, List.reverse_nil, List.nil_append, List.singleton_append]
        rw [← getD_at hql]
        have hmem : l.getD q default ∈ l := by rw [getD_at hql]; exact List.getElem_mem hql
        have hdd := depth_mem hmem
        exact ⟨⟨rfl, by simp only []; omega, hg', c0, c1, c2', _, c3', hh.up (by omega), hb⟩, ih (by omega)⟩
    have := key m (Nat.le_refl _)
    rwa [List.take_of_length_le (by omega)] at this
/-- the function's own state: J T F w: the terms T are pending, its own blocks are F -/
structure ROState (J : Pend → List Nat → World → Prop) : Prop where
  same : ∀ {T : Pend} {F : List Nat} {w w' : World}, J T F w → (∀ k ∈ F, w'.heap[k]? = w.heap[k]?) → J T F w'
  lt : ∀ {T : Pend} {F : List Nat} {w : World}, J T F w → ∀ k ∈ F, k < w.heap.size
/-- the relation of the walk -/
def ROR (W1 : World) (N lo : Nat) (J : Pend → List Nat → World → Prop) (n : Nat) (S : List Nat) (L : List Ent) (w : World) : Prop :=
  ∃ (T : Pend) (F : List Nat), AllE (EntOk N lo W1) L T ∧ sizeP T ≤ n ∧ n ≤ 1073741824 ∧ (∀ k ∈ S, W1.heap.size ≤ k ∧ k < w.heap.size) ∧ Below W1.heap.size W1 w ∧ J T F w ∧ (∀ k ∈ F, W1.heap.size ≤ k ∧ k ∉ S)
theorem ro_visits {W1 : World} {N lo : Nat} {J : Pend → List Nat → World → Prop} (hJ : ROState J) (vf : Nat) (cb : Array Value)
    (hv : ∀ (e : Ent) (t : TermM) (d : Nat) (T : Pend) (F : List Nat) (w : World), EntOk N lo W1 e (t, d) → Below W1.heap.size W1 w → (∀ k ∈ F, W1.heap.size ≤ k) → J ((t, d) :: T) F w → Calls Try.prog vf (#[placeV e] ++ cb) w fun ex w' => ∃ b F', ex = .returned (.bool b) ∧ Chg F w w' ∧ (∀ k ∈ F', k ∈ F ∨ w.heap.size ≤ k) ∧
      J (if b then kidsP t d ++ T else T) F' w') : Visits vf cb (ROR W1 N lo J) where
  keep := by
    rintro n S S' L w w' ⟨T, F, h1, h2, h3, h4, h5, h6, h7⟩ hc hS
    have hlt := hJ.lt h6
    refine ⟨T, F, h1, h2, h3, fun k hk => ⟨?_, (hS k hk).2⟩, h5.trans (hc.below h5.size (fun k hk => (h4 k hk).1)), hJ.same h6 (fun k hk => hc.block k (hlt k hk) (h7 k hk).2), fun k hk => ⟨(h7 k hk).1, fun hk' => ?_⟩⟩
    · rcases (hS k hk).1 with h | h
      · exact (h4 k h).1
      · exact Nat.le_trans h5.size h
    · rcases (hS k hk').1 with h | h
      · exact (h7 k hk).2 h
      · have := hlt k hk; omega
  ent := by
    rintro n S e L w ⟨T, F, h1, h2, h3, h4, h5, h6, h7⟩
    cases T with
    | nil => exact h1.elim
    | cons p T =>
      obtain ⟨⟨a1, a2, a3, _⟩, hL⟩ := h1
      have h8 := length_le_sizeP T
      have h9 := AllE.len hL
      have h10 : sizeP (p :: T) = size p.1 + sizeP T := rfl
      refine ⟨Nat.lt_of_lt_of_le a3 h5.size, fun hm => by have := (h4 _ hm).1; omega, by omega, h3, by omega⟩
  visit := by
    rintro n S e L w ⟨T, F, h1, h2, h3, h4, h5, h6, h7⟩
    cases T with
    | nil => exact h1.elim
    | cons p T =>
      obtain ⟨t, d⟩ := p
      obtain ⟨hE, hL⟩ := h1
      have hE' := hE
      obtain ⟨a1, a2, a3, c0, c1, c2, v, c3, hh, hb⟩ := hE'
      have hsz : sizeP ((t, d) :: T) = 1 + sizes t.args + sizeP T := by rw [← size_eq]; rfl
      refine ⟨n - 1, by omega, (hv e t d T F w hE h5 (fun k hk => (h7 k hk).1) h6).mono ?_⟩
      rintro ex w' ⟨b, F', rfl, hc, hF', hJ'⟩
      have hFB : ∀ k ∈ F, W1.heap.size ≤ k := fun k hk => (h7 k hk).1
      have h5' : Below W1.heap.size W1 w' := h5.trans (hc.below h5.size hFB)
      have hlt := hJ.lt h6
      have h7' : ∀ k ∈ F', W1.heap.size ≤ k ∧ k ∉ S := fun k hk => by
        rcases hF' k hk with h | h
        · exact h7 k h
        · exact ⟨Nat.le_trans h5.size h, fun hm => by have := (h4 k hm).2; omega⟩
      have h4' : ∀ k ∈ S, W1.heap.size ≤ k ∧ k < w'.heap.size := fun k hk => ⟨(h4 k hk).1, Nat.lt_of_lt_of_le (h4 k hk).2 hc.size⟩
      refine ⟨b, rfl, hc.size, fun k hk hlt' => hc.block k hlt' (fun hm => (h7 k hm).2 hk), ?_⟩
      cases b with
      | false => exact .inl ⟨rfl, T, F', hL, by omega, by omega, h4', h5', hJ', h7'⟩
      | true =>
        right
        obtain ⟨A, c, rfl, hh'⟩ := HasR.shape hh rfl
        have hdd := depth_eq t
        have a2' : d + depth t ≤ 1073741824 := a2
        obtain ⟨g, o, hA, hK⟩ := allE_kids (d := d) hh' (show d + 1 + depths t.args ≤ 1073741824 by omega)
        refine ⟨rfl, A, t.args.length, c, (h5'.cell (p := ⟨e.1, e.2.1 + 3, none⟩) a3).trans c3, by have := sizes_len t.args; omega, hh'.len.2.2, g, o, hA, kidsP t d ++ T, F', ?_, ?_, by omega, h4', h5', hJ', h7'⟩
        · rw [a1]; exact AllE.append hK hL
        · rw [sizeP_append, sizeP_kids]; omega
end Go.Proofs.Ytiilamngcoegiaa.termro
