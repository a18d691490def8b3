/-
  PROMISES: trees under way, whose pending nodes still share their arguments. Any program.
-/
import Derived.Test.YtiilamngcoegiaaTermsp
namespace Go.Proofs.Ytiilamngcoegiaa.termpr
open Go.ChangeShapes Go.WideShapes Go.ChangeAt Go.RowKit
open mem rowl trm trmv terml termb termt termx termz termro termsd termvx termcl termsp

theorem OT_succ {e : TypeId} : ∀ (n : Nat) {lo : Nat} {w : World} {v : Value} {L : List TermM} {S : List Nat}, OT e n lo w v L S → OT e (n + 1) lo w v L S
  | 0, _, _, _, _, _, h => h.elim
  | n + 1, _, _, _, _, _, ⟨xs, vs, Ss, ho, hS, hnd, hj⟩ => ⟨xs, vs, Ss, ho, hS, hnd, fun j hjl => ⟨(hj j hjl).1, (hj j hjl).2.1, OT_succ n (hj j hjl).2.2⟩⟩
theorem OT_up {e : TypeId} {n m : Nat} (h : n ≤ m) {lo : Nat} {w : World} {v : Value} {L : List TermM} {S : List Nat} (ho : OT e n lo w v L S) : OT e m lo w v L S := by
  induction h with
  | refl => exact ho
  | step _ ih => exact OT_succ _ ih
/-- each pending node's arguments are rows of their own, of these blocks -/
def Dn (lo : Nat) (w : World) : List Ent → List TermM → List (List Nat) → Prop
  | [], [], [] => True
  | e :: L, t :: T, S :: Ss => (∃ v, w.cell? ⟨e.1, e.2.1 + 3, none⟩ = some v ∧ OT 40 (depth t) lo w v t.args S) ∧ Dn lo w L T Ss
  | _, _, _ => False
theorem Dn.len {lo : Nat} {w : World} : ∀ {L : List Ent} {T : List TermM} {Ss : List (List Nat)}, Dn lo w L T Ss → Ss.length = L.length
  | [], [], [], _ => rfl
  | _ :: L, _ :: T, _ :: Ss, h => by rw [List.length_cons, List.length_cons, Dn.len h.2]
  | [], [], _ :: _, h => h.elim
  | [], _ :: _, _, h => h.elim
  | _ :: _, [], _, h => h.elim
  | _ :: _, _ :: _, [], h => h.elim
theorem Dn.split {lo : Nat} {w : World} : ∀ {L M : List Ent} {T U : List TermM} {Ss : List (List Nat)}, L.length = T.length → Dn lo w (L ++ M) (T ++ U) Ss → ∃ A B, Ss = A ++ B ∧ Dn lo w L T A ∧ Dn lo w M U B
  | [], _, [], _, Ss, _, h => ⟨[], Ss, rfl, trivial, h⟩
  | [], _, _ :: _, _, _, hl, _ => by simp at hl
  | _ :: _, _, [], _, _, hl, _ => by simp at hl
  | e :: L, M, t :: T, U, [], _, h => h.elim
  | e :: L, M, t :: T, U, S :: Ss, hl, h => by
    obtain ⟨A, B, rfl, h1, h2⟩ := Dn.split (L := L) (T := T) (by simpa using hl) h.2
    exact ⟨S :: A, B, rfl, ⟨h.1, h1⟩, h2⟩
/-- the argument cells of the pending nodes -/
def pos (L : List Ent) : List (Nat × Nat) := L.map fun e => (e.1, e.2.1 + 3)
/-- the rows in the blocks of F stand, but at P -/
def RowsKept (lo : Nat) (F : List Nat) (P : List (Nat × Nat)) (w w' : World) : Prop := ∀ g ∈ F, ∀ n cap xs, w.ownsRow lo 40 4 (.slice (some ⟨g, 0, none⟩) n cap) n xs →
  ∃ xs', w'.ownsRow lo 40 4 (.slice (some ⟨g, 0, none⟩) n cap) n xs' ∧ ∀ p, (g, p) ∉ P → xs'[p]? = xs[p]?
theorem RowsKept.trans {lo : Nat} {F : List Nat} {P : List (Nat × Nat)} {a b c : World} (h : RowsKept lo F P a b) (k : RowsKept lo F P b c) : RowsKept lo F P a c := by
  intro g hg n cap xs hx
  obtain ⟨ys, h1, h2⟩ := h g hg n cap xs hx
  obtain ⟨zs, h3, h4⟩ := k g hg n cap ys h1
  exact ⟨zs, h3, fun p hp => (h4 p hp).trans (h2 p hp)⟩
theorem RowsKept.mono {lo : Nat} {F F' : List Nat} {P P' : List (Nat × Nat)} {a b : World} (h : RowsKept lo F P a b) (hF : ∀ g ∈ F', g ∈ F) (hP : ∀ g ∈ F', ∀ p, (g, p) ∈ P → (g, p) ∈ P') : RowsKept lo F' P' a b := by
  intro g hg n cap xs hx
  obtain ⟨ys, h1, h2⟩ := h g (hF g hg) n cap xs hx
  exact ⟨ys, h1, fun p hp => h2 p (fun hm => hp (hP g hg p hm))⟩
/-- the promise: once the pending nodes' arguments are rows of their own, G -/
def Inv (lo lo2 : Nat) (G : World → Prop) (F : List Nat) (L : List Ent) (T : List TermM) (w : World) : Prop := ∀ w' Ss, RowsKept lo F (pos L) w w' → Dn lo2 w' L T Ss → (F ++ Ss.flatten).Nodup → G w'
theorem Inv.kept {lo lo2 : Nat} {G : World → Prop} {F : List Nat} {L : List Ent} {T : List TermM} {w w' : World} (h : Inv lo lo2 G F L T w) (hk : RowsKept lo F (pos L) w w') : Inv lo lo2 G F L T w' := fun w2 Ss h1 h2 h3 => h w2 Ss (hk.trans h1) h2 h3
/-- the kids' rows, by their place -/
theorem dn_kids {lo : Nat} {w : World} (l : List TermM) (g d : Nat) : ∀ (m : Nat) {A : List (List Nat)}, m ≤ l.length → Dn lo w (kids g 0 d m) ((l.take m).reverse) A →
    ∃ Sf : Nat → List Nat, A.flatten.Perm ((List.range m).flatMap Sf) ∧ ∀ j, j < m → ∃ v, w.cell? ⟨g, j * 4 + 3, none⟩ = some v ∧ OT 40 (depth (l.getD j default)) lo w v (l.getD j default).args (Sf j)
  | 0, A, _, h => by
    cases A with
    | nil => exact ⟨fun _ => [], by simp, fun j hj => by omega⟩
    | cons S A => simp [kids, Dn] at h
  | m + 1, A, hm, h => by
    have e : (l.take (m + 1)).reverse = l.getD m default :: (l.take m).reverse := by
      rw [List.take_succ_eq_append_getElem (by omega), List.reverse_append, getD_at (by omega)]; rfl
    rw [e] at h
    cases A with
    | nil => exact h.elim
    | cons S A =>
      obtain ⟨⟨v, hv, ho⟩, h2⟩ := h
      obtain ⟨Sf, hp, hj⟩ := dn_kids l g d m (by omega) h2
      have key : ∀ j, j < m → (if j = m then S else Sf j) = Sf j := fun j hj => if_neg (by omega)
      refine ⟨fun j => if j = m then S else Sf j, ?_, fun j hjm => ?_⟩
      · rw [List.range_succ, List.flatMap_append, List.flatten_cons]
        have e2 : (List.range m).flatMap (fun j => if j = m then S else Sf j) = (List.range m).flatMap Sf := flatMap_same (fun j hj => key j (by simpa using hj))
        rw [e2]
        simp only [List.flatMap_cons, List.flatMap_nil, List.append_nil, if_true]
        exact List.perm_append_comm.trans (hp.append_right S)
      · by_cases hj2 : j = m
        · subst hj2
          refine ⟨v, ?_, by simpa using ho⟩
          simpa using hv
        · obtain ⟨v', h3, h4⟩ := hj j (by omega)
          exact ⟨v', h3, by simp only [if_neg hj2]; exact h4⟩
theorem depth_getD {l : List TermM} {j : Nat} (h : j < l.length) : depth (l.getD j default) ≤ depths l := by
  rw [getD_at h]; exact depth_mem (List.getElem_mem h)
/-- a node whose arguments' row is new, once its kids are done -/
theorem ot_node {lo g m c : Nat} {w : World} {t : TermM} {xs : List Value} {vs : Nat → Value} {Sf : Nat → List Nat} (hm : m = t.args.length) (ho : w.ownsRow lo 40 4 (.slice (some ⟨g, 0, none⟩) m c) m xs)
    (hx : ∀ p, (∀ j, j < m → p ≠ j * 4 + 3) → xs[p]? = (fours t.args vs m)[p]?) (hb : ∀ j, j < m → Bnd (t.args.getD j default)) (hk : ∀ j, j < m → ∃ v, w.cell? ⟨g, j * 4 + 3, none⟩ = some v ∧ OT 40 (depth (t.args.getD j default)) lo w v (t.args.getD j default).args (Sf j))
    (hn : (g :: (List.range m).flatMap Sf).Nodup) : OT 40 (depth t) lo w (.slice (some ⟨g, 0, none⟩) m c) t.args (g :: (List.range m).flatMap Sf) := by
  rw [depth_eq]
  subst hm
  refine ⟨xs, fun j => xs.getD (j * 4 + 3) undef, Sf, ho, by simp [Value.ownBlock], hn, fun j hj => ?_⟩
  obtain ⟨a, b, c', _⟩ := fours_at t.args vs t.args.length j hj
  obtain ⟨v, h1, h2⟩ := hk j hj
  have h3 : xs[j * 4 + 3]? = some v := by rw [← ho.cellAt (j * 4 + 3) (by omega)]; exact h1
  refine ⟨⟨(hx _ (fun i hi => by omega)).trans a, (hx _ (fun i hi => by omega)).trans b, (hx _ (fun i hi => by omega)).trans c', ?_⟩, hb j hj, ?_⟩
  · simp only [List.getD, h3, Option.getD_some]
  · simp only [List.getD, h3, Option.getD_some]
    exact OT_up (depth_getD hj) h2
theorem pos_kids {g d : Nat} : ∀ {m : Nat} {x p : Nat}, (x, p) ∈ pos (kids g 0 d m) → x = g ∧ ∃ j, j < m ∧ p = j * 4 + 3
  | 0, _, _, h => by simp [pos, kids] at h
  | m + 1, x, p, h => by
    simp only [pos, kids, List.map_cons, List.mem_cons, Prod.mk.injEq] at h
    rcases h with ⟨rfl, rfl⟩ | h
    · exact ⟨rfl, m, Nat.lt_succ_self _, by omega⟩
    · obtain ⟨h1, j, h2, h3⟩ := pos_kids (m := m) h
      exact ⟨h1, j, by omega, h3⟩
theorem pos_mem {L : List Ent} {x p : Nat} (h : (x, p) ∈ pos L) : ∃ e ∈ L, e.1 = x := by
  obtain ⟨e, he, h⟩ := List.mem_map.1 h
  simp only [Prod.mk.injEq] at h
  exact ⟨e, he, h.1⟩
theorem rows_below {lo : Nat} {F : List Nat} {P : List (Nat × Nat)} {w w' : World} (h : Below w.heap.size w w') : RowsKept lo F P w w' := fun _ _ _ _ xs hx => ⟨xs, own_below hx h, fun _ _ => rfl⟩
theorem rows_set {lo : Nat} {F : List Nat} {P : List (Nat × Nat)} {w : World} {g o : Nat} (v : Value) (h : (g, o) ∈ P) : RowsKept lo F P w (w.setCell ⟨g, o, none⟩ v) := by
  intro g' _ n cap xs hx
  by_cases e : g' = g
  · subst e
    exact ⟨_, setCell_own hx o v, fun p hp => List.getElem?_set_ne (fun e => hp (by rw [← e]; exact h))⟩
  · refine ⟨xs, ?_, fun _ _ => rfl⟩
    exact (Chg.set (S := [g]) (by simp) v).own hx (fun x hx => by simp [Value.ownBlock] at hx; subst hx; simpa using e)
theorem take_rev (l : List TermM) {m : Nat} (h : m = l.length) : (l.take m).reverse = l.reverse := by rw [List.take_of_length_le (by omega)]
theorem own_raise {w : World} {base base' n g cap size : Nat} {e : TypeId} {xs : List Value} (h : w.ownsRow base e size (.slice (some ⟨g, 0, none⟩) n cap) n xs) (hg : base' ≤ g) : w.ownsRow base' e size (.slice (some ⟨g, 0, none⟩) n cap) n xs := by
  refine ⟨h.1, ?_⟩
  rcases h.2 with ⟨h2, _⟩ | ⟨g', cap', cur, hv, hb, r⟩
  · cases h2
  · have e := hv
    simp only [Value.slice.injEq, Option.some.injEq, Addr.mk.injEq, and_true, true_and] at e
    obtain ⟨rfl, rfl⟩ := e
    exact .inr ⟨g, cap, cur, rfl, hg, r⟩
/-- one visit: the node's arguments have got a row of their own, its kids are pending in its place -/
theorem Inv.visit {lo lo2 : Nat} {G : World → Prop} {F : List Nat} {e : Ent} {L : List Ent} {t : TermM} {T : List TermM} {w w1 : World} {g' m c d : Nat} {vs : Nat → Value} (hI : Inv lo lo2 G F (e :: L) (t :: T) w) (hb : Below w.heap.size w w1) (hm : m = t.args.length)
    (ho : w1.ownsRow w.heap.size 40 4 (.slice (some ⟨g', 0, none⟩) m c) m (fours t.args vs m)) (hbn : ∀ j, j < m → Bnd (t.args.getD j default)) (hlo : lo ≤ w.heap.size) (hlo2 : lo2 ≤ w.heap.size) (hF : ∀ k ∈ F, k < w.heap.size) (hLF : ∀ x ∈ e :: L, x.1 ∈ F)
    (hrow : ∃ n cap xs, w.ownsRow lo 40 4 (.slice (some ⟨e.1, 0, none⟩) n cap) n xs ∧ e.2.1 + 3 < n * 4) (hpos : (pos (e :: L)).Nodup) :
    Inv lo lo2 G (g' :: F) (kids g' 0 d m ++ L) (t.args.reverse ++ T) (w1.setCell ⟨e.1, e.2.1 + 3, none⟩ (.slice (some ⟨g', 0, none⟩) m c)) := by
  intro w' Ss hRK hDn hNd
  have hg' : w.heap.size ≤ g' := (own_lt ho).1
  have heF := hLF e (by simp)
  have hne : ∀ k ∈ F, k ≠ g' := fun k hk e => by have := hF k hk; omega
  obtain ⟨A, B, rfl, hA, hB⟩ := Dn.split (by rw [kids_len, List.length_reverse]; exact hm) hDn
  obtain ⟨Sf, hp, hj⟩ := dn_kids t.args g' d m (by omega) (by rw [take_rev _ hm]; exact hA)
  have hrow' : (w1.setCell ⟨e.1, e.2.1 + 3, none⟩ (.slice (some ⟨g', 0, none⟩) m c)).ownsRow lo 40 4 (.slice (some ⟨g', 0, none⟩) m c) m (fours t.args vs m) :=
    (Chg.set (S := [e.1]) (by simp) _).own (own_mono ho hlo) (fun x hx => by simp [Value.ownBlock] at hx; subst hx; simpa using (hne _ heF).symm)
  obtain ⟨xs', hx1, hx2⟩ := hRK g' (by simp) m c _ hrow'
  have hnd2 : (F ++ ((g' :: (List.range m).flatMap Sf) :: B).flatten).Nodup := by
    refine (List.Perm.nodup_iff ?_).1 hNd
    rw [List.flatten_cons, List.flatten_append]
    have p1 : (A.flatten ++ B.flatten).Perm ((List.range m).flatMap Sf ++ B.flatten) := hp.append_right _
    have p2 : (g' :: F ++ (A.flatten ++ B.flatten)).Perm (g' :: F ++ ((List.range m).flatMap Sf ++ B.flatten)) := List.Perm.append_left _ p1
    refine p2.trans ?_
    simpa using (List.perm_middle (a := g') (l₁ := F) (l₂ := (List.range m).flatMap Sf ++ B.flatten)).symm
  have hnode : (g' :: (List.range m).flatMap Sf).Nodup := by
    have h1 := (List.nodup_append.1 hnd2).2.1
    rw [List.flatten_cons] at h1
    exact (List.nodup_append.1 h1).1
  have hot := ot_node (lo := lo2) (vs := vs) hm (own_raise hx1 (Nat.le_trans hlo2 hg')) (fun p hp' => hx2 p (fun hm' => by
    unfold pos at hm'
    rw [List.map_append, List.mem_append] at hm'
    rcases hm' with h | h
    · obtain ⟨_, j, h1, h2⟩ := pos_kids h
      exact hp' j h1 h2
    · obtain ⟨x, hx, e1⟩ := pos_mem h
      exact hne _ (hLF x (by simp [hx])) e1)) hbn hj hnode
  obtain ⟨n, cap, xe, hxe, hlt⟩ := hrow
  have hxe1 := setCell_own (own_below hxe hb) (e.2.1 + 3) (.slice (some ⟨g', 0, none⟩) m c)
  obtain ⟨ye, hy1, hy2⟩ := hRK e.1 (by simp [heF]) n cap _ hxe1
  have hnot : (e.1, e.2.1 + 3) ∉ pos (kids g' 0 d m ++ L) := fun hm' => by
    unfold pos at hm'
    rw [List.map_append, List.mem_append] at hm'
    rcases hm' with h | h
    · exact hne _ heF (pos_kids h).1
    · unfold pos at hpos
      rw [List.map_cons, List.nodup_cons] at hpos
      exact hpos.1 h
  have hcell : w'.cell? ⟨e.1, e.2.1 + 3, none⟩ = some (.slice (some ⟨g', 0, none⟩) m c) := by
    rw [hy1.cellAt _ hlt, hy2 _ hnot, List.getElem?_set_self (by have := hxe.1; omega)]
  refine hI w' ((g' :: (List.range m).flatMap Sf) :: B) ?_ ⟨⟨_, hcell, hot⟩, hB⟩ hnd2
  refine (rows_below hb).trans ((rows_set _ (by simp [pos])).trans (hRK.mono (fun g hg => by simp [hg]) (fun g hg p hp' => ?_)))
  unfold pos at hp'
  rw [List.map_append, List.mem_append] at hp'
  rcases hp' with h | h
  · exact absurd (pos_kids h).1 (hne g hg)
  · unfold pos
    rw [List.map_cons]
    exact List.mem_cons_of_mem _ h
/-- one visit of a node whose arguments are nil -/
theorem Inv.visit_nil {lo lo2 : Nat} {G : World → Prop} {F : List Nat} {e : Ent} {L : List Ent} {t : TermM} {T : List TermM} {w w1 : World} (hI : Inv lo lo2 G F (e :: L) (t :: T) w) (hb : Below w.heap.size w w1) (hm : t.args = []) (heF : e.1 ∈ F)
    (hrow : ∃ n cap xs, w.ownsRow lo 40 4 (.slice (some ⟨e.1, 0, none⟩) n cap) n xs ∧ e.2.1 + 3 < n * 4) (hpos : (pos (e :: L)).Nodup) :
    Inv lo lo2 G F L T (w1.setCell ⟨e.1, e.2.1 + 3, none⟩ (.slice none 0 0)) := by
  intro w' Ss hRK hDn hNd
  obtain ⟨n, cap, xe, hxe, hlt⟩ := hrow
  have hxe1 := setCell_own (own_below hxe hb) (e.2.1 + 3) (.slice none 0 0)
  obtain ⟨ye, hy1, hy2⟩ := hRK e.1 heF n cap _ hxe1
  have hnot : (e.1, e.2.1 + 3) ∉ pos L := by
    unfold pos at hpos ⊢
    rw [List.map_cons, List.nodup_cons] at hpos
    exact hpos.1
  have hcell : w'.cell? ⟨e.1, e.2.1 + 3, none⟩ = some (.slice none 0 0) := by
    rw [hy1.cellAt _ hlt, hy2 _ hnot, List.getElem?_set_self (by have := hxe.1; omega)]
  have hot : OT 40 (depth t) lo2 w' (.slice none 0 0) t.args [] := by
    rw [depth_eq, hm]; exact OT.nil _ _ lo2 w'
  refine hI w' ([] :: Ss) ?_ ⟨⟨_, hcell, hot⟩, hDn⟩ (by simpa using hNd)
  refine (rows_below hb).trans ((rows_set _ (by simp [pos])).trans (hRK.mono (fun g hg => hg) (fun g hg p hp' => ?_)))
  unfold pos at hp' ⊢
  rw [List.map_cons]
  exact List.mem_cons_of_mem _ hp'
end Go.Proofs.Ytiilamngcoegiaa.termpr
