/-
  Termsp, Termpr, Rebp, Rebq, Rebi, Tmd, Termpw, Termcy, merged.
-/
import Derived.Test.YtkkmjaggebjcbaaGreatPk06
import Derived.Test.YtkkmjaggebjcbaaGreatPk08
import Derived.Test.YtkkmjaggebjcbaaGreatPk05
import Derived.Test.YtkkmjaggebjcbaaGreatBitl
import Derived.Lib.BitFns
import Derived.LaidEqlPtr
/-
 THE PROGRAM'S SortTerms: what is called at the nodes.
-/
namespace Go.Proofs.YtkkmjaggebjcbaaGreat.termsp
open Go.ChangeShapes Go.WideShapes Go.ChangeAt Go.RowKit
open mem dec rowl trm trmv terml termb termt termx termz termro termsd termvx termcl

end Go.Proofs.YtkkmjaggebjcbaaGreat.termsp
/-
 PROMISES: trees under way, whose pending nodes still share their arguments. Any program.
-/
namespace Go.Proofs.YtkkmjaggebjcbaaGreat.termpr
open Go.ChangeShapes Go.WideShapes Go.ChangeAt Go.RowKit
open mem rowl trm trmv terml termb termt termx termz termro termsd termvx termcl termsp

theorem OT_succ {e : TypeId} : ∀ (n : Nat) {lo : Nat} {w : World} {v : Value} {L : List TermM} {S : List Nat}, OT e n lo w v L S → OT e (n + 1) lo w v L S
 | 0, _, _, _, _, _, h => h.elim
 | n + 1, _, _, _, _, _, ⟨xs, vs, Ss, ho, hS, hnd, hj⟩ => ⟨xs, vs, Ss, ho, hS, hnd, fun j hjl => ⟨(hj j hjl).1, (hj j hjl).2.1, OT_succ n (hj j hjl).2.2⟩⟩
theorem OT_up {e : TypeId} {n m : Nat} (h : n ≤ m) {lo : Nat} {w : World} {v : Value} {L : List TermM} {S : List Nat} (ho : OT e n lo w v L S) : OT e m lo w v L S := by
 induction h with
 | refl => exact ho
 | step _ ih => exact OT_succ _ ih
/-- each pending node's arguments are rows of their own, of these blocks -/
def Dn (lo : Nat) (w : World) : List Ent → List TermM → List (List Nat) → Prop
 | [], [], [] => True
 | e :: L, t :: T, S :: Ss => (∃ v, w.cell? ⟨e.1, e.2.1 + 3, none⟩ = some v ∧ OT 34 (depth t) lo w v t.args S) ∧ Dn lo w L T Ss
 | _, _, _ => False
theorem Dn.len {lo : Nat} {w : World} : ∀ {L : List Ent} {T : List TermM} {Ss : List (List Nat)}, Dn lo w L T Ss → Ss.length = L.length
 | [], [], [], _ => rfl
 | _ :: L, _ :: T, _ :: Ss, h => by rw [List.length_cons, List.length_cons, Dn.len h.2]
 | [], [], _ :: _, h => h.elim
 | [], _ :: _, _, h => h.elim
 | _ :: _, [], _, h => h.elim
 | _ :: _, _ :: _, [], h => h.elim
theorem Dn.split {lo : Nat} {w : World} : ∀ {L M : List Ent} {T U : List TermM} {Ss : List (List Nat)}, L.length = T.length → Dn lo w (L ++ M) (T ++ U) Ss → ∃ A B, Ss = A ++ B ∧ Dn lo w L T A ∧ Dn lo w M U B
 | [], _, [], _, Ss, _, h => ⟨[], Ss, rfl, trivial, h⟩
 | [], _, _ :: _, _, _, hl, _ => by simp at hl
 | _ :: _, _, [], _, _, hl, _ => by simp at hl
 | e :: L, M, t :: T, U, [], _, h => h.elim
 | e :: L, M, t :: T, U, S :: Ss, hl, h => by
  obtain ⟨A, B, rfl, h1, h2⟩ := Dn.split (L := L) (T := T) (by simpa using hl) h.2
  exact ⟨S :: A, B, rfl, ⟨h.1, h1⟩, h2⟩
/-- the argument cells of the pending nodes -/
def pos (L : List Ent) : List (Nat × Nat) := L.map fun e => (e.1, e.2.1 + 3)
/-- the rows in the blocks of F stand, but at P -/
def RowsKept (lo : Nat) (F : List Nat) (P : List (Nat × Nat)) (w w' : World) : Prop := ∀ g ∈ F, ∀ n cap xs, w.ownsRow lo 34 4 (.slice (some ⟨g, 0, none⟩) n cap) n xs →
 ∃ xs', w'.ownsRow lo 34 4 (.slice (some ⟨g, 0, none⟩) n cap) n xs' ∧ ∀ p, (g, p) ∉ P → xs'[p]? = xs[p]?
theorem RowsKept.trans {lo : Nat} {F : List Nat} {P : List (Nat × Nat)} {a b c : World} (h : RowsKept lo F P a b) (k : RowsKept lo F P b c) : RowsKept lo F P a c := by
 intro g hg n cap xs hx
 obtain ⟨ys, h1, h2⟩ := h g hg n cap xs hx
 obtain ⟨zs, h3, h4⟩ := k g hg n cap ys h1
 exact ⟨zs, h3, fun p hp => (h4 p hp).trans (h2 p hp)⟩
theorem RowsKept.mono {lo : Nat} {F F' : List Nat} {P P' : List (Nat × Nat)} {a b : World} (h : RowsKept lo F P a b) (hF : ∀ g ∈ F', g ∈ F) (hP : ∀ g ∈ F', ∀ p, (g, p) ∈ P → (g, p) ∈ P') : RowsKept lo F' P' a b := by
 intro g hg n cap xs hx
 obtain ⟨ys, h1, h2⟩ := h g (hF g hg) n cap xs hx
 exact ⟨ys, h1, fun p hp => h2 p (fun hm => hp (hP g hg p hm))⟩
/-- the promise: once the pending nodes' arguments are rows of their own, G -/
def Inv (lo lo2 : Nat) (G : World → Prop) (F : List Nat) (L : List Ent) (T : List TermM) (w : World) : Prop := ∀ w' Ss, RowsKept lo F (pos L) w w' → Dn lo2 w' L T Ss → (F ++ Ss.flatten).Nodup → G w'
theorem Inv.kept {lo lo2 : Nat} {G : World → Prop} {F : List Nat} {L : List Ent} {T : List TermM} {w w' : World} (h : Inv lo lo2 G F L T w) (hk : RowsKept lo F (pos L) w w') : Inv lo lo2 G F L T w' := fun w2 Ss h1 h2 h3 => h w2 Ss (hk.trans h1) h2 h3
/-- the kids' rows, by their place -/
theorem dn_kids {lo : Nat} {w : World} (l : List TermM) (g d : Nat) : ∀ (m : Nat) {A : List (List Nat)}, m ≤ l.length → Dn lo w (kids g 0 d m) ((l.take m).reverse) A →
  ∃ Sf : Nat → List Nat, A.flatten.Perm ((List.range m).flatMap Sf) ∧ ∀ j, j < m → ∃ v, w.cell? ⟨g, j * 4 + 3, none⟩ = some v ∧ OT 34 (depth (l.getD j default)) lo w v (l.getD j default).args (Sf j)
 | 0, A, _, h => by
  cases A with
  | nil => exact ⟨fun _ => [], by simp, fun j hj => by omega⟩
  | cons S A => simp [kids, Dn] at h
 | m + 1, A, hm, h => by
  have e : (l.take (m + 1)).reverse = l.getD m default :: (l.take m).reverse := by
   rw [List.take_succ_eq_append_getElem (by omega), List.reverse_append, getD_at (by omega)]; rfl
  rw [e] at h
  cases A with
  | nil => exact h.elim
  | cons S A =>
   obtain ⟨⟨v, hv, ho⟩, h2⟩ := h
   obtain ⟨Sf, hp, hj⟩ := dn_kids l g d m (by omega) h2
   have key : ∀ j, j < m → (if j = m then S else Sf j) = Sf j := fun j hj => if_neg (by omega)
   refine ⟨fun j => if j = m then S else Sf j, ?_, fun j hjm => ?_⟩
   ·rw [List.range_succ, List.flatMap_append, List.flatten_cons]
    have e2 : (List.range m).flatMap (fun j => if j = m then S else Sf j) = (List.range m).flatMap Sf := flatMap_same (fun j hj => key j (by simpa using hj))
    rw [e2]
    simp only [List.flatMap_cons, List.flatMap_nil, List.append_nil, if_true]
    exact List.perm_append_comm.trans (hp.append_right S)
   ·by_cases hj2 : j = m
    ·subst hj2
     refine ⟨v, ?_, by simpa using ho⟩
     simpa using hv
    ·obtain ⟨v', h3, h4⟩ := hj j (by omega)
     exact ⟨v', h3, by simp only [if_neg hj2]; exact h4⟩
theorem depth_getD {l : List TermM} {j : Nat} (h : j < l.length) : depth (l.getD j default) ≤ depths l := by
 rw [getD_at h]; exact depth_mem (List.getElem_mem h)
/-- a node whose arguments' row is new, once its kids are done -/
theorem ot_node {lo g m c : Nat} {w : World} {t : TermM} {xs : List Value} {vs : Nat → Value} {Sf : Nat → List Nat} (hm : m = t.args.length) (ho : w.ownsRow lo 34 4 (.slice (some ⟨g, 0, none⟩) m c) m xs)
  (hx : ∀ p, (∀ j, j < m → p ≠ j * 4 + 3) → xs[p]? = (fours t.args vs m)[p]?) (hb : ∀ j, j < m → Bnd (t.args.getD j default)) (hk : ∀ j, j < m → ∃ v, w.cell? ⟨g, j * 4 + 3, none⟩ = some v ∧ OT 34 (depth (t.args.getD j default)) lo w v (t.args.getD j default).args (Sf j))
  (hn : (g :: (List.range m).flatMap Sf).Nodup) : OT 34 (depth t) lo w (.slice (some ⟨g, 0, none⟩) m c) t.args (g :: (List.range m).flatMap Sf) := by
 rw [depth_eq]
 subst hm
 refine ⟨xs, fun j => xs.getD (j * 4 + 3) undef, Sf, ho, by simp [Value.ownBlock], hn, fun j hj => ?_⟩
 obtain ⟨a, b, c', _⟩ := fours_at t.args vs t.args.length j hj
 obtain ⟨v, h1, h2⟩ := hk j hj
 have h3 : xs[j * 4 + 3]? = some v := by rw [← ho.cellAt (j * 4 + 3) (by omega)]; exact h1
 refine ⟨⟨(hx _ (fun i hi => by omega)).trans a, (hx _ (fun i hi => by omega)).trans b, (hx _ (fun i hi => by omega)).trans c', ?_⟩, hb j hj, ?_⟩
 ·simp only [List.getD, h3, Option.getD_some]
 ·simp only [List.getD, h3, Option.getD_some]
  exact OT_up (depth_getD hj) h2
theorem pos_kids {g d : Nat} : ∀ {m : Nat} {x p : Nat}, (x, p) ∈ pos (kids g 0 d m) → x = g ∧ ∃ j, j < m ∧ p = j * 4 + 3
 | 0, _, _, h => by simp [pos, kids] at h
 | m + 1, x, p, h => by
  simp only [pos, kids, List.map_cons, List.mem_cons, Prod.mk.injEq] at h
  rcases h with ⟨rfl, rfl⟩ | h
  ·exact ⟨rfl, m, Nat.lt_succ_self _, by omega⟩
  ·obtain ⟨h1, j, h2, h3⟩ := pos_kids (m := m) h
   exact ⟨h1, j, by omega, h3⟩
theorem pos_mem {L : List Ent} {x p : Nat} (h : (x, p) ∈ pos L) : ∃ e ∈ L, e.1 = x := by
 obtain ⟨e, he, h⟩ := List.mem_map.1 h
 simp only [Prod.mk.injEq] at h
 exact ⟨e, he, h.1⟩
theorem rows_below {lo : Nat} {F : List Nat} {P : List (Nat × Nat)} {w w' : World} (h : Below w.heap.size w w') : RowsKept lo F P w w' := fun _ _ _ _ xs hx => ⟨xs, own_below hx h, fun _ _ => rfl⟩
theorem rows_set {lo : Nat} {F : List Nat} {P : List (Nat × Nat)} {w : World} {g o : Nat} (v : Value) (h : (g, o) ∈ P) : RowsKept lo F P w (w.setCell ⟨g, o, none⟩ v) := by
 intro g' _ n cap xs hx
 by_cases e : g' = g
 ·subst e
  exact ⟨_, setCell_own hx o v, fun p hp => List.getElem?_set_ne (fun e => hp (by rw [← e]; exact h))⟩
 ·refine ⟨xs, ?_, fun _ _ => rfl⟩
  exact (Chg.set (S := [g]) (by simp) v).own hx (fun x hx => by simp [Value.ownBlock] at hx; subst hx; simpa using e)
theorem take_rev (l : List TermM) {m : Nat} (h : m = l.length) : (l.take m).reverse = l.reverse := by rw [List.take_of_length_le (by omega)]
theorem own_raise {w : World} {base base' n g cap size : Nat} {e : TypeId} {xs : List Value} (h : w.ownsRow base e size (.slice (some ⟨g, 0, none⟩) n cap) n xs) (hg : base' ≤ g) : w.ownsRow base' e size (.slice (some ⟨g, 0, none⟩) n cap) n xs := by
 refine ⟨h.1, ?_⟩
 rcases h.2 with ⟨h2, _⟩ | ⟨g', cap', cur, hv, hb, r⟩
 ·cases h2
 ·have e := hv
  simp only [Value.slice.injEq, Option.some.injEq, Addr.mk.injEq, and_true, true_and] at e
  obtain ⟨rfl, rfl⟩ := e
  exact .inr ⟨g, cap, cur, rfl, hg, r⟩
/-- one visit: the node's arguments have got a row of their own, its kids are pending in its place -/
theorem Inv.visit {lo lo2 : Nat} {G : World → Prop} {F : List Nat} {e : Ent} {L : List Ent} {t : TermM} {T : List TermM} {w w1 : World} {g' m c d : Nat} {vs : Nat → Value} (hI : Inv lo lo2 G F (e :: L) (t :: T) w) (hb : Below w.heap.size w w1) (hm : m = t.args.length)
  (ho : w1.ownsRow w.heap.size 34 4 (.slice (some ⟨g', 0, none⟩) m c) m (fours t.args vs m)) (hbn : ∀ j, j < m → Bnd (t.args.getD j default)) (hlo : lo ≤ w.heap.size) (hlo2 : lo2 ≤ w.heap.size) (hF : ∀ k ∈ F, k < w.heap.size) (hLF : ∀ x ∈ e :: L, x.1 ∈ F)
  (hrow : ∃ n cap xs, w.ownsRow lo 34 4 (.slice (some ⟨e.1, 0, none⟩) n cap) n xs ∧ e.2.1 + 3 < n * 4) (hpos : (pos (e :: L)).Nodup) :
  Inv lo lo2 G (g' :: F) (kids g' 0 d m ++ L) (t.args.reverse ++ T) (w1.setCell ⟨e.1, e.2.1 + 3, none⟩ (.slice (some ⟨g', 0, none⟩) m c)) := by
 intro w' Ss hRK hDn hNd
 have hg' : w.heap.size ≤ g' := (own_lt ho).1
 have heF := hLF e (by simp)
 have hne : ∀ k ∈ F, k ≠ g' := fun k hk e => by have := hF k hk; omega
 obtain ⟨A, B, rfl, hA, hB⟩ := Dn.split (by rw [kids_len, List.length_reverse]; exact hm) hDn
 obtain ⟨Sf, hp, hj⟩ := dn_kids t.args g' d m (by omega) (by rw [take_rev _ hm]; exact hA)
 have hrow' : (w1.setCell ⟨e.1, e.2.1 + 3, none⟩ (.slice (some ⟨g', 0, none⟩) m c)).ownsRow lo 34 4 (.slice (some ⟨g', 0, none⟩) m c) m (fours t.args vs m) :=
  (Chg.set (S := [e.1]) (by simp) _).own (own_mono ho hlo) (fun x hx => by simp [Value.ownBlock] at hx; subst hx; simpa using (hne _ heF).symm)
 obtain ⟨xs', hx1, hx2⟩ := hRK g' (by simp) m c _ hrow'
 have hnd2 : (F ++ ((g' :: (List.range m).flatMap Sf) :: B).flatten).Nodup := by
  refine (List.Perm.nodup_iff ?_).1 hNd
  rw [List.flatten_cons, List.flatten_append]
  have p1 : (A.flatten ++ B.flatten).Perm ((List.range m).flatMap Sf ++ B.flatten) := hp.append_right _
  have p2 : (g' :: F ++ (A.flatten ++ B.flatten)).Perm (g' :: F ++ ((List.range m).flatMap Sf ++ B.flatten)) := List.Perm.append_left _ p1
  refine p2.trans ?_
  simpa using (List.perm_middle (a := g') (l₁ := F) (l₂ := (List.range m).flatMap Sf ++ B.flatten)).symm
 have hnode : (g' :: (List.range m).flatMap Sf).Nodup := by
  have h1 := (List.nodup_append.1 hnd2).2.1
  rw [List.flatten_cons] at h1
  exact (List.nodup_append.1 h1).1
 have hot := ot_node (lo := lo2) (vs := vs) hm (own_raise hx1 (Nat.le_trans hlo2 hg')) (fun p hp' => hx2 p (fun hm' => by
  unfold pos at hm'
  rw [List.map_append, List.mem_append] at hm'
  rcases hm' with h | h
  ·obtain ⟨_, j, h1, h2⟩ := pos_kids h
   exact hp' j h1 h2
  ·obtain ⟨x, hx, e1⟩ := pos_mem h
   exact hne _ (hLF x (by simp [hx])) e1)) hbn hj hnode
 obtain ⟨n, cap, xe, hxe, hlt⟩ := hrow
 have hxe1 := setCell_own (own_below hxe hb) (e.2.1 + 3) (.slice (some ⟨g', 0, none⟩) m c)
 obtain ⟨ye, hy1, hy2⟩ := hRK e.1 (by simp [heF]) n cap _ hxe1
 have hnot : (e.1, e.2.1 + 3) ∉ pos (kids g' 0 d m ++ L) := fun hm' => by
  unfold pos at hm'
  rw [List.map_append, List.mem_append] at hm'
  rcases hm' with h | h
  ·exact hne _ heF (pos_kids h).1
  ·unfold pos at hpos
   rw [List.map_cons, List.nodup_cons] at hpos
   exact hpos.1 h
 have hcell : w'.cell? ⟨e.1, e.2.1 + 3, none⟩ = some (.slice (some ⟨g', 0, none⟩) m c) := by
  rw [hy1.cellAt _ hlt, hy2 _ hnot, List.getElem?_set_self (by have := hxe.1; omega)]
 refine hI w' ((g' :: (List.range m).flatMap Sf) :: B) ?_ ⟨⟨_, hcell, hot⟩, hB⟩ hnd2
 refine (rows_below hb).trans ((rows_set _ (by simp [pos])).trans (hRK.mono (fun g hg => by simp [hg]) (fun g hg p hp' => ?_)))
 unfold pos at hp'
 rw [List.map_append, List.mem_append] at hp'
 rcases hp' with h | h
 ·exact absurd (pos_kids h).1 (hne g hg)
 ·unfold pos
  rw [List.map_cons]
  exact List.mem_cons_of_mem _ h
end Go.Proofs.YtkkmjaggebjcbaaGreat.termpr
/-
 A ROW OF TERMS READS AT ITS OWN DEPTH; the open nodes of a tree that is being rebuilt, in memory. Any program.
-/
namespace Go.Proofs.YtkkmjaggebjcbaaGreat.rebp
open Go.ChangeShapes Go.WideShapes Go.ChangeAt Go.RowKit
open mem dec rowl trm trmv terml termb termt termx termcl termro tma tmr termpr

theorem RT_down : ∀ (n : Nat) {lo : Nat} {w : World} {cs : List Value} {t : TermM}, RT n lo w cs t → RT (depth t) lo w cs t
 | 0, _, _, _, _, h => h.elim
 | n + 1, lo, w, cs, t, ⟨va, e, h, r⟩ => by
  rw [depth_eq]
  refine ⟨va, e, ?_, r⟩
  obtain ⟨A, c, e', h1, h2, h3⟩ := h
  refine ⟨A, c, e', h1, h2, fun j hj => ?_⟩
  obtain ⟨g, o, cs', e1, hl, hg, hc, hr⟩ := h3 j hj
  exact ⟨g, o, cs', e1, hl, hg, hc, RT_up (depth_getD hj) (RT_down n hr)⟩
/-- a row reads at the depth of its terms -/
theorem has_down {n lo : Nat} {w : World} {v : Value} {L : List TermM} (h : HasTs n lo w v L) : HasTs (depths L) lo w v L := by
 obtain ⟨A, c, e', h1, h2, h3⟩ := h
 refine ⟨A, c, e', h1, h2, fun j hj => ?_⟩
 obtain ⟨g, o, cs', e1, hl, hg, hc, hr⟩ := h3 j hj
 exact ⟨g, o, cs', e1, hl, hg, hc, RT_up (depth_getD hj) (RT_down n hr)⟩

/-- an open node: where it stands, its term, its arguments' value, what its first arguments have become, and the slice that holds them -/
structure Ent where
 g : Nat
 o : Nat
 t : TermM
 v : Value
 R : List (TermM × Value)
 dv : Value
/-- its two cells in the path -/
def cellsE (e : Ent) : List Value := [.pointer (some ⟨e.g, e.o, none⟩), e.dv]
/-- the path's row, the outermost first; the list holds the innermost first -/
def flatE : List Ent → List Value
 | [] => []
 | e :: Q => flatE Q ++ cellsE e
theorem flatE_len : ∀ Q : List Ent, (flatE Q).length = Q.length * 2
 | [] => rfl
 | e :: Q => by rw [flatE, List.length_append, flatE_len Q]; simp [cellsE]; omega
theorem flatE_top {e : Ent} {Q : List Ent} {k : Nat} (hk : k = Q.length) : (flatE (e :: Q))[k * 2]? = some (.pointer (some ⟨e.g, e.o, none⟩)) ∧ (flatE (e :: Q))[k * 2 + 1]? = some e.dv := by
 have hl := flatE_len Q
 subst hk
 rw [flatE]
 constructor
 ·rw [List.getElem?_append_right (by omega), hl, Nat.sub_self]; rfl
 ·rw [List.getElem?_append_right (by omega), hl, Nat.add_sub_cancel_left]; rfl
theorem flatE_pop {e : Ent} {Q : List Ent} {k : Nat} (hk : k = Q.length) : (flatE (e :: Q)).take (k * 2) = flatE Q := by
 rw [flatE, hk, ← flatE_len Q, List.take_left]
theorem flatE_at : ∀ {Q : List Ent} {i : Nat}, i < Q.length → (flatE Q)[(Q.length - 1 - i) * 2]? = (Q[i]?).map fun e => Value.pointer (some ⟨e.g, e.o, none⟩)
 | [], i, h => by simp at h
 | e :: Q, 0, _ => by
  have := (flatE_top (e := e) (Q := Q) rfl).1
  simpa using this
 | e :: Q, i + 1, h => by
  have h1 : i < Q.length := by simpa using h
  have ih := flatE_at h1
  have hl := flatE_len Q
  rw [flatE, List.length_cons, show Q.length + 1 - 1 - (i + 1) = Q.length - 1 - i by omega, List.getElem?_append_left (by omega), ih]
  simp
/-- the block is one of plain cells -/
def Plain (w : World) (g : Nat) : Prop := ∃ c t, w.heap[g]? = some (.cells c t (0, 0))
theorem Plain.below {w w' : World} {g : Nat} (h : Plain w g) (hb : Below w.heap.size w w') : Plain w' g := by
 obtain ⟨c, t, h⟩ := h
 exact ⟨c, t, (hb.block g (Array.getElem?_eq_some_iff.1 h).1).trans h⟩
/-- the rows of a row of terms lie in plain blocks, m rows deep -/
def PlA : Nat → World → Value → List TermM → Prop
 | 0, _, _, _ => True
 | n + 1, w, v, L => ∀ j, j < L.length → ∀ g o c, v = .slice (some ⟨g, o, none⟩) L.length c → Plain w g ∧ ∀ v', w.cell? ⟨g, o + j * 4 + 3, none⟩ = some v' → PlA n w v' (L.getD j default).args
theorem ot_plain {T : TypeId} : ∀ (n m : Nat) {lo : Nat} {w : World} {v : Value} {L : List TermM} {S : List Nat}, OT T n lo w v L S → PlA m w v L
 | _, 0, _, _, _, _, _, _ => trivial
 | 0, _ + 1, _, _, _, _, _, h => h.elim
 | n + 1, m + 1, lo, w, v, L, S, ⟨xs, vs, Ss, ho, hS, hnd, hj⟩ => by
  intro j hjl g o c hv
  rcases ho.2 with ⟨hv2, _⟩ | ⟨g', cap, cur, hv2, hg, hh, _⟩
  ·rw [hv2] at hv; cases hv
  ·rw [hv2] at hv
   simp only [Value.slice.injEq, Option.some.injEq, Addr.mk.injEq, and_true, true_and] at hv
   obtain ⟨⟨rfl, rfl⟩, rfl⟩ := hv
   refine ⟨⟨cur, T, hh⟩, fun v' hv' => ?_⟩
   obtain ⟨⟨_, _, _, h3⟩, _, h5⟩ := hj j hjl
   subst hv2
   have h6 := (ho.cellAt (j * 4 + 3) (by omega)).trans h3
   rw [show 0 + j * 4 + 3 = j * 4 + 3 by omega, h6] at hv'
   injection hv' with hv'
   subst hv'
   exact ot_plain n m h5
/-- the node stands in the world wl -/
def NodeE (N : Nat) (wl : World) (e : Ent) : Prop := (wl.cell? ⟨e.g, e.o, none⟩ = some (.int .i64 e.t.op) ∧ wl.cell? ⟨e.g, e.o + 1, none⟩ = some (.string (bstr e.t.name)) ∧ wl.cell? ⟨e.g, e.o + 2, none⟩ = some (.int .i64 e.t.sort) ∧ wl.cell? ⟨e.g, e.o + 3, none⟩ = some e.v) ∧ HasTs N 0 wl e.v e.t.args ∧ Bnd e.t ∧ Plain wl e.g ∧ ∀ m, PlA m wl e.v e.t.args
/-- e is the open argument of f -/
def ChildE (f e : Ent) : Prop := f.R.length < f.t.args.length ∧ e.t = f.t.args.getD f.R.length default
def ChainE : List Ent → Prop
 | [] => True
 | [_] => True
 | e :: f :: Q => ChildE f e ∧ ChainE (f :: Q)
/-- further out the terms are deeper -/
theorem chain_depth : ∀ {Q : List Ent} {e : Ent}, ChainE (e :: Q) → ∀ f ∈ Q, depth e.t < depth f.t
 | [], e, _, f, hf => by simp at hf
 | f :: Q, e, ⟨h1, h2⟩, x, hx => by
  have h3 : depth e.t < depth f.t := by
   rw [h1.2, depth_eq f.t]
   exact Nat.lt_succ_of_le (depth_getD h1.1)
  rcases List.mem_cons.1 hx with rfl | hx
  ·exact h3
  ·exact Nat.lt_trans h3 (chain_depth h2 x hx)
/-- two nodes at one place have one depth -/
theorem node_same {N : Nat} {wl : World} {e f : Ent} (he : NodeE N wl e) (hf : NodeE N wl f) (h1 : e.g = f.g) (h2 : e.o = f.o) : depth e.t = depth f.t := by
 have h3 : some e.v = some f.v := by rw [← he.1.2.2.2, ← hf.1.2.2.2, h1, h2]
 injection h3 with h3
 have h4 : e.t.args = f.t.args := has_same N N (by rw [← h3]; exact he.2.1) (hf.2.1)
 rw [depth_eq, depth_eq, h4]
theorem node_far {N : Nat} {wl : World} {e f : Ent} (he : NodeE N wl e) (hf : NodeE N wl f) (h : depth e.t < depth f.t) : ¬ (f.g = e.g ∧ f.o = e.o) := fun ⟨a, b⟩ => by
 have := node_same he hf a.symm b.symm
 omega
end Go.Proofs.YtkkmjaggebjcbaaGreat.rebp
/-
 THE PATH OF OPEN NODES IN MEMORY: opening an argument, closing a node. Any program.
-/
namespace Go.Proofs.YtkkmjaggebjcbaaGreat.rebq
open Go.ChangeShapes Go.WideShapes Go.ChangeAt Go.RowKit
open mem dec rowl trm trmv terml termb termt termx termcl termro tma tmr termpr rebp

/-- the blocks of the done rows -/
def dvB (Q : List Ent) : List Nat := Q.flatMap fun e => e.dv.ownBlock.toList
theorem dvB_cons (e : Ent) (Q : List Ent) : dvB (e :: Q) = e.dv.ownBlock.toList ++ dvB Q := rfl
theorem dvB_mem {e : Ent} {Q : List Ent} (he : e ∈ Q) {k : Nat} (hk : e.dv.ownBlock = some k) : k ∈ dvB Q := List.mem_flatMap.2 ⟨e, he, by rw [hk]; simp⟩
theorem own_blk {w : World} {base : Nat} {e : TypeId} {size n : Nat} {v : Value} {xs : List Value} (h : w.ownsRow base e size v n xs) : ∀ k, v.ownBlock = some k → base ≤ k ∧ k < w.heap.size := by
 intro k hk
 rcases h.2 with ⟨rfl, _⟩ | ⟨g, cap, cur, rfl, hb, hg, _⟩
 ·cases hk
 ·cases hk
  exact ⟨hb, (Array.getElem?_eq_some_iff.1 hg).1⟩
/-- the path: its row, the nodes, the done rows, each in a block of its own, and what their elements reach, read without those blocks -/
structure PathR (N : Nat) (wl : World) (B gp cap : Nat) (X : List Nat) (T2 T4 : TypeId) (Q : List Ent) (w : World) : Prop where
 below : Below wl.heap.size wl w
 hB : wl.heap.size ≤ B
 row : w.ownsRow B T2 2 (.slice (some ⟨gp, 0, none⟩) Q.length cap) Q.length (flatE Q)
 node : ∀ e ∈ Q, NodeE N wl e
 chain : ChainE Q
 done : ∀ e ∈ Q, w.ownsRow B T4 4 e.dv e.R.length (rowV e.R)
 apart : (gp :: dvB Q).Nodup
 el : ∀ e ∈ Q, ∀ x ∈ e.R, El 21 0 (tmr.blank ((gp :: dvB Q) ++ X) w) x
 hX : ∀ k ∈ X, k < B
theorem PathR.lt {N : Nat} {wl : World} {B gp cap : Nat} {X : List Nat} {T2 T4 : TypeId} {Q : List Ent} {w : World} (h : PathR N wl B gp cap X T2 T4 Q w) : ∀ k ∈ gp :: dvB Q, B ≤ k ∧ k < w.heap.size := by
 intro k hk
 rcases List.mem_cons.1 hk with rfl | hk
 ·exact own_blk h.row _ rfl
 ·obtain ⟨e, he, hk⟩ := List.mem_flatMap.1 hk
  exact own_blk (h.done e he) k (by simpa using hk)
theorem PathR.all {N : Nat} {wl : World} {B gp cap : Nat} {X : List Nat} {T2 T4 : TypeId} {Q : List Ent} {w : World} (h : PathR N wl B gp cap X T2 T4 Q w) : ∀ k ∈ (gp :: dvB Q) ++ X, (k ∈ X ∨ wl.heap.size ≤ k) ∧ k < w.heap.size := by
 intro k hk
 have hgp := h.lt gp (by simp)
 have hB := h.hB
 rcases List.mem_append.1 hk with hk | hk
 ·have := h.lt k hk
  exact ⟨.inr (by omega), by omega⟩
 ·have := h.hX k hk
  exact ⟨.inl hk, by omega⟩
/-- what is read without some blocks is read still, if nothing else has changed and the new ones are new -/
theorem sub_next {S S' : List Nat} {w w' : World} (hc : Chg S w w') (hS : ∀ k ∈ S', k ∈ S ∨ w.heap.size ≤ k) : tmr.Sub (tmr.blank S w) (tmr.blank S' w') := fun a u hx => by
 obtain ⟨h1, h2⟩ := blank_cell hx
 have hlt := block_lt_of_cell h2
 refine cell_blank (fun hm => ?_) ((World.cell?_of_block (a := a) (hc.block _ hlt h1)).trans h2)
 rcases hS _ hm with h3 | h3
 ·exact h1 h3
 ·omega
/-- an argument is opened: the path's row has grown by it -/
theorem PathR.push {N : Nat} {wl : World} {B gp gp' cap cap' : Nat} {X : List Nat} {T2 T4 : TypeId} {e x : Ent} {Q : List Ent} {w w' : World} (h : PathR N wl B gp cap X T2 T4 (e :: Q) w) (hx : NodeE N wl x) (hch : ChildE e x) (hR : x.R = []) (hv : x.dv = .slice none 0 0)
  (hr : w'.ownsRow B T2 2 (.slice (some ⟨gp', 0, none⟩) (e :: Q).length.succ cap') (e :: Q).length.succ (flatE (e :: Q) ++ cellsE x)) (hg : w.grownBy w' (some gp)) (hgp : gp' = gp ∨ gp' = w.heap.size) : PathR N wl B gp' cap' X T2 T4 (x :: e :: Q) w' := by
 have hlt := h.lt
 have hc : Chg [gp] w w' := ⟨hg.os, hg.tape, hg.output, hg.size, fun k hk hn => hg.block k hk (fun e => hn (by simp at e; simp [e]))⟩
 have hdv : dvB (x :: e :: Q) = dvB (e :: Q) := by rw [dvB_cons x, hv]; rfl
 have hapt := h.apart
 rw [List.nodup_cons] at hapt
 refine ⟨h.below.trans (hc.below h.below.size (fun k hk => by have := (hlt gp (by simp)).1; have := h.hB; simp at hk; omega)), h.hB, hr, fun y hy => ?_, ⟨hch, h.chain⟩, fun y hy => ?_, ?_, fun y hy z hz => ?_, h.hX⟩
 ·rcases List.mem_cons.1 hy with rfl | hy
  ·exact hx
  ·exact h.node y hy
 ·rcases List.mem_cons.1 hy with rfl | hy
  ·rw [hR, hv]; exact ⟨rfl, .inl ⟨rfl, rfl⟩⟩
  ·exact hc.own (h.done y hy) (fun k hk hm => by
    simp at hm
    subst hm
    exact hapt.1 (dvB_mem hy hk))
 ·rw [hdv, List.nodup_cons]
  refine ⟨fun hm => ?_, hapt.2⟩
  rcases hgp with rfl | rfl
  ·exact hapt.1 hm
  ·have := (hlt _ (List.mem_cons_of_mem _ hm)).2; omega
 ·rcases List.mem_cons.1 hy with rfl | hy
  ·rw [hR] at hz; cases hz
  ·have h1 := h.el y hy z hz
   refine ⟨has_sub _ ?_ h1.1, h1.2⟩
   rw [hdv]
   refine sub_next ⟨hc.os, hc.tape, hc.output, hc.size, fun k hk hn => hc.block k hk (fun hm => hn (by simp at hm; simp [hm]))⟩ (fun k hk => ?_)
   rcases List.mem_append.1 hk with hk | hk
   ·rcases List.mem_cons.1 hk with rfl | hk
    ·rcases hgp with rfl | rfl
     ·exact .inl (by simp)
     ·exact .inr (Nat.le_refl _)
    ·exact .inl (List.mem_append_left _ (by simp [hk]))
   ·exact .inl (List.mem_append_right _ hk)
/-- what a node has become is put behind the done ones of the next node out -/
def putE (f : Ent) (u : TermM) (vu dv : Value) : Ent := ⟨f.g, f.o, f.t, f.v, f.R ++ [(u, vu)], dv⟩
/-- a node is closed: w1 behind the build, w2 with the box, w3 with the row grown, w4 with the slice put into the path -/
theorem PathR.pop {N : Nat} {wl : World} {B gp cap : Nat} {X : List Nat} {T2 T4 : TypeId} {e f : Ent} {Q : List Ent} {w w1 w2 w3 : World} (h : PathR N wl B gp cap X T2 T4 (e :: f :: Q) w) {u : TermM} {vu : Value} (hd : depths u.args ≤ 20) (hb : Bnd u) (hb1 : Below w.heap.size w w1)
  (hu : ∀ wz, tmr.Sub (tmr.blank ((gp :: dvB (e :: f :: Q)) ++ X) w) wz → Kept w.heap.size w1 wz → HasTs 22 0 wz vu u.args) (hb2 : Below w1.heap.size w1 w2) {dv : Value} {gd : Nat} (hdv : dv.ownBlock = some gd) (hgd : f.dv.ownBlock = some gd ∨ gd = w2.heap.size) (hlt3 : gd < w3.heap.size)
  (hg : w2.grownBy w3 f.dv.ownBlock) (hr : w3.ownsRow B T4 4 dv (f.R.length + 1) (rowV (f.R ++ [(u, vu)]))) :
  PathR N wl B gp cap X T2 T4 (putE f u vu dv :: Q) (w3.setCell ⟨gp, Q.length * 2 + 1, none⟩ dv) := by
 have hlt := h.lt
 have hapt := h.apart
 rw [List.nodup_cons, dvB_cons, dvB_cons] at hapt
 have hnd := hapt.2
 have hgpB := hlt gp (by simp)
 have hsz12 : w.heap.size ≤ w2.heap.size := Nat.le_trans hb1.size hb2.size
 -- what has changed
 have hc : Chg (gp :: dvB (e :: f :: Q)) w (w3.setCell ⟨gp, Q.length * 2 + 1, none⟩ dv) := by
  refine ((((Chg.of_below hb1).trans (Chg.of_below hb2)).trans ⟨hg.os, hg.tape, hg.output, hg.size, fun k hk hn => hg.block k hk (fun e' => hn ?_)⟩)).trans (Chg.set (by simp) dv)
  refine List.mem_cons_of_mem _ (dvB_mem (e := f) (by simp) e'.symm)
 have hblk : ∀ k, w.heap.size ≤ k → k < w1.heap.size → (w3.setCell ⟨gp, Q.length * 2 + 1, none⟩ dv).heap[k]? = w1.heap[k]? := fun k h1 h2 => by
  rw [Below.heap_setCell w3 ⟨gp, Q.length * 2 + 1, none⟩ dv k (by show k ≠ gp; omega), hg.block k (by have := hb2.size; omega) (fun e' => ?_), hb2.block k h2]
  have := (hlt k (List.mem_cons_of_mem _ (dvB_mem (e := f) (by simp) e'.symm))).2
  omega
 have hS : ∀ k ∈ gp :: dvB (putE f u vu dv :: Q), k ∈ gp :: dvB (e :: f :: Q) ∨ w2.heap.size ≤ k := fun k hk => by
  rw [dvB_cons] at hk
  simp only [putE, hdv, Option.toList_some, List.mem_cons, List.mem_append, List.not_mem_nil, or_false] at hk
  rcases hk with rfl | rfl | hk
  ·exact .inl (by simp)
  ·rcases hgd with h1 | h1
   ·exact .inl (List.mem_cons_of_mem _ (dvB_mem (e := f) (by simp) h1))
   ·exact .inr (by omega)
  ·exact .inl (by rw [dvB_cons, dvB_cons]; simp [hk])
 have hSX : ∀ k ∈ (gp :: dvB (putE f u vu dv :: Q)) ++ X, k ∈ (gp :: dvB (e :: f :: Q)) ++ X ∨ w2.heap.size ≤ k := fun k hk => by
  rcases List.mem_append.1 hk with hk | hk
  ·exact (hS k hk).imp (fun h => List.mem_append_left _ h) id
  ·exact .inl (List.mem_append_right _ hk)
 have hsub : tmr.Sub (tmr.blank ((gp :: dvB (e :: f :: Q)) ++ X) w) (tmr.blank ((gp :: dvB (putE f u vu dv :: Q)) ++ X) (w3.setCell ⟨gp, Q.length * 2 + 1, none⟩ dv)) := sub_next (hc.mono (fun k hk => List.mem_append_left _ hk)) (fun k hk => (hSX k hk).imp id (fun h1 => by omega))
 have hqd : ∀ y ∈ Q, ∀ k, y.dv.ownBlock = some k → k ≠ gp ∧ f.dv.ownBlock ≠ some k := fun y hy k hk => by
  have h1 := dvB_mem hy hk
  refine ⟨fun e' => hapt.1 (by subst e'; simp [h1]), fun e' => ?_⟩
  rw [e'] at hnd
  have h2 := (List.nodup_append.1 hnd).2.1
  simp only [Option.toList_some, List.singleton_append, List.nodup_cons] at h2
  exact h2.1 h1
 refine ⟨h.below.trans (hc.below h.below.size (fun k hk => by have := (hlt k hk).1; have := h.hB; omega)), h.hB, ?_, fun y hy => ?_, ?_, fun y hy => ?_, ?_, fun y hy x hx => ?_, h.hX⟩
 ·-- the path's row
  have h1 := h.row
  have hne : ¬ (some gp = f.dv.ownBlock) := fun e' => hapt.1 (by rw [← e']; simp)
  have h2 := own_below (own_below h1 hb1) hb2
  have h3 := World.ownsRow.kept h2 hg (.inr hne)
  have h4 := own_take h3 (m := Q.length + 1) (by simp)
  have h5 := setCell_own h4 (Q.length * 2 + 1) dv
  have e1 : (flatE (e :: f :: Q)).take ((Q.length + 1) * 2) = flatE (f :: Q) := flatE_pop (by simp)
  have e2 : (flatE (f :: Q)).set (Q.length * 2 + 1) dv = flatE (putE f u vu dv :: Q) := by
   rw [flatE, flatE, List.set_append_right _ _ (by rw [flatE_len]; omega), flatE_len, Nat.add_sub_cancel_left]
   rfl
  rw [e1, e2] at h5
  exact h5
 ·rcases List.mem_cons.1 hy with rfl | hy
  ·exact h.node f (by simp)
  ·exact h.node y (by simp [hy])
 ·have h1 := h.chain.2
  cases Q with
  | nil => trivial
  | cons q Q => exact ⟨h1.1, h1.2⟩
 ·rcases List.mem_cons.1 hy with rfl | hy
  ·have h1 : w3.ownsRow B T4 4 (putE f u vu dv).dv (putE f u vu dv).R.length (rowV (putE f u vu dv).R) := by
    show w3.ownsRow B T4 4 dv (f.R ++ [(u, vu)]).length (rowV (f.R ++ [(u, vu)]))
    rw [List.length_append]
    exact hr
   refine (Chg.set (S := [gp]) (by simp) dv).own h1 (fun k hk hm => ?_)
   have hk' : dv.ownBlock = some k := hk
   rw [hdv] at hk'
   cases hk'
   simp at hm
   subst hm
   rcases hgd with h2 | h2
   ·exact hapt.1 (by rw [h2]; simp)
   ·omega
  ·have h1 := World.ownsRow.kept (own_below (own_below (h.done y (by simp [hy])) hb1) hb2) hg (by
    cases hk : y.dv.ownBlock with
    | none => exact .inl rfl
    | some k => exact .inr (fun e' => (hqd y hy k hk).2 e'.symm))
   exact (Chg.set (S := [gp]) (by simp) dv).own h1 (fun k hk hm => by simp at hm; exact (hqd y hy k hk).1 hm)
 ·rw [dvB_cons]
  simp only [putE, hdv, Option.toList_some, List.singleton_append, List.nodup_cons, List.mem_cons]
  refine ⟨fun hm => ?_, fun hm => ?_, ?_⟩
  ·rcases hm with h1 | h1
   ·subst h1
    rcases hgd with h2 | h2
    ·exact hapt.1 (by rw [h2]; simp)
    ·omega
   ·exact hapt.1 (by simp [h1])
  ·obtain ⟨y, hy, hk⟩ := List.mem_flatMap.1 hm
   have hk' : y.dv.ownBlock = some gd := by simpa using hk
   rcases hgd with h2 | h2
   ·exact (hqd y hy gd hk').2 h2
   ·have := (hlt gd (List.mem_cons_of_mem _ (dvB_mem (e := y) (by simp [hy]) hk'))).2
    omega
  ·exact (List.nodup_append.1 (List.nodup_append.1 hnd).2.1).2.1
 ·rcases List.mem_cons.1 hy with rfl | hy
  ·rcases List.mem_append.1 (show x ∈ f.R ++ [(u, vu)] from hx) with hx | hx
   ·have h1 := h.el f (by simp) x hx
    exact ⟨has_sub _ hsub h1.1, h1.2⟩
   ·simp at hx
    subst hx
    refine ⟨?_, hb⟩
    have h1 := hu _ hsub ⟨by rw [blank_size]; have := hc.size; have := hb2.size; have := hg.size; simp [World.setCell]; omega, fun k h1 h2 => ?_⟩
    ·exact (has_down h1).up (by omega)
    ·rw [blank_out (fun hm => ?_)]
     ·exact hblk k h1 h2
     ·rcases hSX k hm with h3 | h3
      ·have := (h.all k h3).2; omega
      ·have := hb2.size; omega
  ·have h1 := h.el y (by simp [hy]) x hx
   exact ⟨has_sub _ hsub h1.1, h1.2⟩
end Go.Proofs.YtkkmjaggebjcbaaGreat.rebq
/-
 THE PROGRAM'S isCircle: a node that is opened is not on the path.
-/
namespace Go.Proofs.YtkkmjaggebjcbaaGreat.rebi
open Go.ChangeShapes Go.WideShapes Go.ChangeAt Go.RowKit
open mem dec rowl trm trmv terml termb termt termx termcl termro tma tmr rebp rebq
theorem bitLen_pow (n : Nat) : 0 < n → n < 2 ^ 64 → 1 ≤ Lib.bitLen n ∧ 2 ^ (Lib.bitLen n - 1) ≤ n := by
 induction n using Nat.strongRecOn with
 | ind n ih =>
  intro h0 h
  have e := Lib.bitLen_half n (by omega) h
  by_cases h1 : n = 1
  ·subst h1
   exact ⟨by rw [e]; omega, by decide⟩
  ·obtain ⟨a, b⟩ := ih (n / 2) (by omega) (by omega) (by omega)
   rw [e]
   refine ⟨by omega, ?_⟩
   have e2 : 1 + Lib.bitLen (n / 2) - 1 = (Lib.bitLen (n / 2) - 1) + 1 := by omega
   rw [e2, Nat.pow_succ]
   omega
set_option maxRecDepth 50000 in
theorem isCircle_any (Q : List Ent) (hQ : Q ≠ []) (hl : Q.length ≤ 1048577) (B gp cap g o : Nat) (w : World) (h : w.ownsRow B 189 2 (.slice (some ⟨gp, 0, none⟩) Q.length cap) Q.length (flatE Q)) (hne : ∀ f ∈ Q, ¬ (f.g = g ∧ f.o = o)) (hpl : ∀ f ∈ Q, Plain w f.g) (hpg : Plain w g) :
  Calls Tryz.prog 141 #[.slice (some ⟨gp, 0, none⟩) Q.length cap, .pointer (some ⟨g, o, none⟩)] w fun e w' => e = .returned (.bool false) ∧ w' = w := by
 have hn0 : 0 < Q.length := List.length_pos_iff.2 hQ
 obtain ⟨b1, b2⟩ := bitLen_pow Q.length hn0 (by omega)
 have HL := Lib.hid (fun W => bitl.len_any Q.length (by omega) W)
 obtain ⟨k, hk⟩ : ∃ k, Lib.bitLen Q.length = k + 1 := ⟨Lib.bitLen Q.length - 1, by omega⟩
 rw [hk] at b2 HL
 have hp : 2 ^ k ≤ Q.length := by simpa using b2
 have hk21 : k < 21 := by
  have h1 : 2 ^ k < 2 ^ 21 := by omega
  exact (Nat.pow_lt_pow_iff_right (by omega)).1 h1
 obtain ⟨p, hpd⟩ : ∃ p, p = 2 ^ k := ⟨_, rfl⟩
 have hp0 : 0 < p := by rw [hpd]; exact Nat.two_pow_pos k
 rw [← hpd] at hp
 have hw0 : IntKind.u64.wrap ((Q.length : Nat) : Int) = ((Q.length : Nat) : Int) := by simp only [IntKind.wrap, IntKind.bits, IntKind.signed]; simp; omega
 have hw1 : wrap64 (((k + 1 : Nat) : Int) - 1) = (k : Int) := by rw [IntWalk.wrap64_in _ (by omega)]; omega
 have hw1' : wrap64 ((k : Int) + 1 - 1) = (k : Int) := by rw [IntWalk.wrap64_in _ (by omega)]; omega
 have hw2 : wrap64 ((2 : Int) ^ k) = (p : Int) := by
  have e : (2 : Int) ^ k = ((2 ^ k : Nat) : Int) := by simp
  rw [e, ← hpd, IntWalk.wrap64_in _ (by omega)]
 obtain ⟨q, hq⟩ : ∃ q, p = q + 1 := ⟨p - 1, by omega⟩
 have hw3 : wrap64 ((p : Int) - 1) = (q : Int) := by rw [IntWalk.wrap64_in _ (by omega)]; omega
 have hi : Q.length - 1 - q < Q.length := by omega
 have hat := flatE_at hi
 rw [show Q.length - 1 - (Q.length - 1 - q) = q by omega, List.getElem?_eq_getElem hi, Option.map_some] at hat
 have hx := hne _ (List.getElem_mem hi)
 have hxp := hpl _ (List.getElem_mem hi)
 generalize Q[Q.length - 1 - q]'hi = x at hat hx hxp
 have s1 := (h.cellAt (q * 2) (by omega)).trans hat
 obtain ⟨n, hn⟩ : ∃ n, n = Q.length := ⟨_, rfl⟩
 rw [← hn] at hw0 HL ⊢
 have hqn : q < n := by omega
 have i1 : (0 : Int) ≤ (q : Int) := by omega
 have i2 : (q : Int) < (n : Int) := by omega
 have hkk : (0 : Int) ≤ (k : Int) := by omega
 have hxe : ∀ n, (binOp .eql 143 (.pointer (some ⟨x.g, x.o, none⟩)) (.pointer (some ⟨g, o, none⟩))).run Tryz.prog n = .ok (.bool false) n ∨ n ≠ w := fun n => by
  by_cases hnw : n = w
  ·subst hnw
   obtain ⟨j0, hij, hy0, hy1, hy2⟩ := info_parts info_term
   obtain ⟨ca, ta, ha⟩ := hxp
   obtain ⟨cb, tb, hb⟩ := hpg
   exact .inl (run_eql_ptr_other n Tryz.underlying143 hij (by rw [hy1]; omega) (fun e => hx (by simpa using e)) ha hb)
  ·exact .inr hnw
 have hxe := (hxe w).resolve_right (fun h => h rfl)
 clear h hne hat hi hpl hpg hxp hQ hn hp hpd hq b1 b2 hk hl hn0
 go_enter Tryz.func141, Tryz.ntmps141
 go_wp2_with fail
 refine (HL.out _).mono ?_
 rintro e w1 ⟨rfl, rfl⟩
 go_wp2
 go_ret
 exact ⟨rfl, rfl⟩
end Go.Proofs.YtkkmjaggebjcbaaGreat.rebi
/-
 THE LIBRARY'S SORT AT A ROW OF TERMS OF ONE'S OWN, WHOSE ELEMENTS ARE READ IN A WORLD WITHOUT THAT ROW.
-/
namespace Go.Proofs.YtkkmjaggebjcbaaGreat.tmd
open Go.ChangeShapes Go.WideShapes Go.ChangeAt Go.RowKit
open mem dec rowl trm trmv terml termb termt termx termcl termso tma tmr

theorem cmp_laysX (N lo g size : Nat) (wl w : World) (hg : ∀ w', Chg [g] w w' → Sub wl w') (n0 : Nat) (hn : n0 = 0) :
  CmpLays Tryz.prog 101 #[] (encT (N := N) (lo := lo) (w := wl)) 4 cfT g n0 size w := by
 intro m os dk hdk x y
 subst hn
 have hc : Chg [g] w (sortWorldK encT 4 w g 0 m dk os) := grown_put _
 refine (compare_any (n := N) x.t y.t x.v y.v _ (has_sub N (hg _ hc) x.h) (has_sub N (hg _ hc) y.h) x.s).mono ?_
 rintro e w' ⟨rfl, h⟩
 exact ⟨rfl, h.grow⟩
/-- slices.SortFunc with CompareTerms -/
theorem sortX_any {N lo g cap base : Nat} (wl w : World) (d : Array (Elt N lo wl)) (hg : ∀ w', Chg [g] w w' → Sub wl w') (xs : List Value) (ho : w.ownsRow base 34 4 (.slice (some ⟨g, 0, none⟩) d.size cap) d.size xs)
  (hx : ∀ j, j < d.size → Cells4 xs j d[j]!.t d[j]!.v) (hsz : d.size < 4611686018427387904) :
  Calls Tryz.prog 135 #[.slice (some ⟨g, 0, none⟩) d.size cap, .func (.func 101) #[] #[]] w fun e w' => e = .returned (.tuple #[]) ∧
   ∃ (d' : Array (Elt N lo wl)) (xs' : List Value), d'.size = d.size ∧ d'.toList.Perm d.toList ∧ (∀ i j, i < j → j < d.size → cmp d'[i]!.t d'[j]!.t ≤ 0) ∧ w'.ownsRow base 34 4 (.slice (some ⟨g, 0, none⟩) d.size cap) d.size xs' ∧
    (∀ j, j < d.size → Cells4 xs' j d'[j]!.t d'[j]!.v) ∧ Chg [g] w w' := by
 have eg : ∀ args w, (callFunc 101 args).run Tryz.prog w = .ok (.enter 101 args) w := Go.Proofs.enters_of Tryz.func101 (by kernel_rfl) rfl
 obtain ⟨cur, hbase, hcur, hnc, hcm, hcs⟩ : ∃ cur, base ≤ g ∧ w.heap[g]? = some (.cells cur 34 (0, 0)) ∧ d.size ≤ cap ∧ cap ≤ maxLen ∧ cur.size = cap * 4 := by
  rcases ho.2 with ⟨hv, _⟩ | ⟨g', cap', cur, hv, hb, hg, hnc, hcm, hcs, _⟩
  ·cases hv
  ·simp only [Value.slice.injEq, Option.some.injEq, Addr.mk.injEq, and_true, true_and] at hv
   obtain ⟨rfl, rfl⟩ := hv
   exact ⟨cur, hb, hg, hnc, hcm, hcs⟩
 have hgw : g < w.heap.size := (Array.getElem?_eq_some_iff.1 hcur).1
 have hcell : ∀ (xs : List Value) (d : Array (Elt N lo wl)) j, Cells4 xs j d[j]!.t d[j]!.v → ∀ c, c < 4 → xs[j * 4 + c]? = some (encT d[j]!)[c]! := by
  rintro xs d j ⟨a, b, c, e⟩ i hi
  match i, hi with
  | 0, _ => exact a
  | 1, _ => exact b
  | 2, _ => exact c
  | 3, _ => exact e
 have hH : Sort.HoldsK encT 4 w g 0 d := by
  intro t ht
  rw [Sort.size_flatK] at ht
  rw [Nat.zero_add, Sort.get_flatK _ _ _ _ ht, ho.cellAt t (by omega)]
  have h4 := hcell xs d (t / 4) (hx (t / 4) (by omega)) (t % 4) (by omega)
  rw [show t / 4 * 4 + t % 4 = t by omega] at h4
  exact ⟨h4, ho.frozenAt _⟩
 have hcon := AnyQ.slices_SortFunc termsl.sortT 4 Tryz.isAgg34 Tryz.sizeOf34 encT (fun _ => rfl) (fun x v hv => by
   obtain ⟨A, c, e, _⟩ := HasR.shape x.h rfl
   simp only [encT, List.mem_cons, List.not_mem_nil, or_false] at hv
   rcases hv with rfl | rfl | rfl | rfl
   ·rfl
   ·rfl
   ·rfl
   ·rw [e]; rfl) cfT (swoT N lo wl) 101 #[] g 0 cap d w eg (cmp_laysX N lo g d.size wl w hg 0 rfl) hH hgw hsz
 change Calls Tryz.prog 135 _ _ _ at hcon
 refine hcon.mono ?_
 rintro e w' ⟨rfl, d', n, os, hp, hs, rfl⟩
 obtain ⟨hsize, _, hperm⟩ := hp
 refine ⟨rfl, d', (Sort.flatK encT 4 d').toList, hsize, ?_, fun i j hij hj => ?_, ?_, fun j hj => ?_, grown_put _⟩
 ·have e1 : d'.extract 0 d.size = d' := by rw [← hsize]; exact Array.extract_size
  have e2 : d.extract 0 d.size = d := Array.extract_size
  rwa [e1, e2] at hperm
 ·have h := hs i j (Nat.zero_le _) hij hj
  have h' : ¬ cmp d'[j]!.t d'[i]!.t < 0 := of_decide_eq_false h
  have := cmp_swap d'[j]!.t d'[i]!.t
  omega
 ·refine ⟨by rw [Array.length_toList, Sort.size_flatK, hsize], .inr ⟨g, cap, _, rfl, hbase, heap_put _ hcur, hnc, hcm, by simp [Sort.putCells, hcs], ?_⟩⟩
  have hF : (Sort.flatK encT 4 d').size = d.size * 4 := by rw [Sort.size_flatK, hsize]
  rw [← hF]
  exact take_put _ _ (by rw [hF, hcs]; omega)
 ·have hget : ∀ c, c < 4 → (Sort.flatK encT 4 d').toList[j * 4 + c]? = some (encT d'[j]!)[c]! := by
   intro c hc
   have hlt : j * 4 + c < d'.size * 4 := by omega
   have h := Sort.get_flatK encT 4 d' (j * 4 + c) hlt
   rw [show (j * 4 + c) / 4 = j by omega, show (j * 4 + c) % 4 = c by omega] at h
   rw [Array.getElem?_toList, ← h, getElem!_pos _ _ (by rw [Sort.size_flatK]; exact hlt)]
   exact Array.getElem?_eq_getElem _
  exact ⟨hget 0 (by omega), hget 1 (by omega), hget 2 (by omega), hget 3 (by omega)⟩
/-- a row in order: the elements with their values -/
theorem sort_rows {N lo g cap base : Nat} (wl w : World) (R : List (TermM × Value)) (hE : ∀ x ∈ R, El N lo wl x) (hz : ∀ x ∈ R, sizes x.1.args ≤ 2097152) (hg : ∀ w', Chg [g] w w' → Sub wl w') (ho : w.ownsRow base 34 4 (.slice (some ⟨g, 0, none⟩) R.length cap) R.length (rowV R)) (hsz : R.length < 4611686018427387904) :
  Calls Tryz.prog 135 #[.slice (some ⟨g, 0, none⟩) R.length cap, .func (.func 101) #[] #[]] w fun e w' => e = .returned (.tuple #[]) ∧
   ∃ R' : List (TermM × Value), R'.length = R.length ∧ R'.map Prod.fst = sortM (R.map Prod.fst) ∧ (∀ x ∈ R', El N lo wl x) ∧ w'.ownsRow base 34 4 (.slice (some ⟨g, 0, none⟩) R.length cap) R'.length (rowV R') ∧ Chg [g] w w' := by
 obtain ⟨d, hd1, hd2⟩ : ∃ d : Array (Elt N lo wl), d.size = R.length ∧ ∀ j, j < R.length → d[j]!.t = (R.getD j p0).1 ∧ d[j]!.v = (R.getD j p0).2 := by
  refine ⟨Array.ofFn (n := R.length) fun j => ⟨(R.getD j.1 p0).1, (R.getD j.1 p0).2, (hE _ (mem_R j.2)).1, (hE _ (mem_R j.2)).2, hz _ (mem_R j.2)⟩, by simp, fun j hj => ?_⟩
  rw [getElem!_pos _ j (by simpa using hj)]
  simp only [Array.getElem_ofFn]
  exact ⟨by trivial, by trivial⟩
 have hc := sortX_any (cap := cap) (base := base) wl w d hg (rowV R) (by rw [hd1]; exact ho) (fun j hj => by
  rw [(hd2 j (by omega)).1, (hd2 j (by omega)).2]
  exact rowV_at R j (by omega)) (by omega)
 rw [hd1] at hc
 refine hc.mono ?_
 rintro e w' ⟨rfl, d', xs', h1, h2, h3, h4, h5, h6⟩
 obtain ⟨R', hR'⟩ : ∃ R' : List (TermM × Value), R' = d'.toList.map (fun x => (x.t, x.v)) := ⟨_, rfl⟩
 have hl : R'.length = R.length := by rw [hR', List.length_map, Array.length_toList, h1]
 have hat : ∀ (d : Array (Elt N lo wl)) j (hj : j < d.size), d[j]! = d[j] := fun d j hj => getElem!_pos d j hj
 have hRj : ∀ j, j < R.length → R'.getD j p0 = (d'[j]!.t, d'[j]!.v) := fun j hj => by
  rw [hR', List.getD_eq_getElem?_getD, List.getElem?_map, Array.getElem?_toList, Array.getElem?_eq_getElem (by omega), hat d' j (by omega)]
  rfl
 have hrow : xs' = rowV R' := by
  apply List.ext_getElem?
  intro p
  by_cases hp : p < R.length * 4
  ·obtain ⟨a, b, c, e⟩ := h5 (p / 4) (by omega)
   obtain ⟨a', b', c', e'⟩ := rowV_at R' (p / 4) (by omega)
   rw [hRj _ (by omega)] at a' b' c' e'
   have hpm : p = p / 4 * 4 + p % 4 := by omega
   rw [hpm]
   match p % 4, (show p % 4 < 4 by omega) with
   | 0, _ => exact a.trans a'.symm
   | 1, _ => exact b.trans b'.symm
   | 2, _ => exact c.trans c'.symm
   | 3, _ => exact e.trans e'.symm
  ·rw [List.getElem?_eq_none (by rw [h4.1]; omega), List.getElem?_eq_none (by rw [rowV_len, hl]; omega)]
 have hmap : d.toList.map (·.t) = R.map Prod.fst := by
  apply List.ext_getElem
  ·simp [hd1]
  ·intro j q1 q2
   have q3 : j < R.length := by simpa using q2
   have := (hd2 j q3).1
   rw [hat d j (by omega)] at this
   simp only [List.getElem_map, Array.getElem_toList]
   rw [this]
   simp [List.getD, List.getElem?_eq_getElem q3]
 refine ⟨rfl, R', hl, ?_, fun x hx => ?_, by rw [hl, ← hrow]; exact h4, h6⟩
 ·have e1 : R'.map Prod.fst = d'.toList.map (·.t) := by rw [hR', List.map_map]; rfl
  rw [e1]
  refine sortM_unique ?_ ((h2.map (fun x => x.t)).trans (by rw [hmap]))
  refine List.pairwise_iff_getElem.2 (fun i j hi hj hij => ?_)
  have hi' : i < d'.size := by simpa using hi
  have hj' : j < d'.size := by simpa using hj
  have q1 := h3 i j hij (by omega)
  rw [hat d' i hi', hat d' j hj'] at q1
  simpa using q1
 ·rw [hR'] at hx
  obtain ⟨y, _, rfl⟩ := List.mem_map.1 hx
  exact ⟨y.h, y.b⟩
end Go.Proofs.YtkkmjaggebjcbaaGreat.tmd
/-
 THE WALK WITH separateArgs: each node's arguments get a row of their own.
-/
namespace Go.Proofs.YtkkmjaggebjcbaaGreat.termpw
open Go.ChangeShapes Go.WideShapes Go.ChangeAt Go.RowKit
open mem rowl trm trmv terml termb termt termx termz termro termsd termvx termcl termsp termpr

def AllT (Q : Ent → TermM → Prop) : List Ent → List TermM → Prop
 | [], [] => True
 | e :: L, t :: T => Q e t ∧ AllT Q L T
 | _, _ => False
theorem AllT.imp {Q Q' : Ent → TermM → Prop} : ∀ {L : List Ent} {T : List TermM}, AllT Q L T → (∀ e ∈ L, ∀ t, Q e t → Q' e t) → AllT Q' L T
 | [], [], _, _ => trivial
 | e :: L, t :: T, ⟨a, b⟩, h => ⟨h e (by simp) t a, b.imp (fun x hx => h x (by simp [hx]))⟩
 | [], _ :: _, h, _ => h.elim
 | _ :: _, [], h, _ => h.elim
theorem AllT.append {Q : Ent → TermM → Prop} : ∀ {L M : List Ent} {T U : List TermM}, AllT Q L T → AllT Q M U → AllT Q (L ++ M) (T ++ U)
 | [], _, [], _, _, h => h
 | _ :: _, _, _ :: _, _, ⟨a, b⟩, h => ⟨a, AllT.append b h⟩
 | [], _, _ :: _, _, h, _ => h.elim
 | _ :: _, _, [], _, h, _ => h.elim
theorem AllT.len {Q : Ent → TermM → Prop} : ∀ {L : List Ent} {T : List TermM}, AllT Q L T → L.length = T.length
 | [], [], _ => rfl
 | _ :: _, _ :: _, ⟨_, b⟩ => by rw [List.length_cons, List.length_cons, AllT.len b]
 | [], _ :: _, h => h.elim
 | _ :: _, [], h => h.elim
theorem AllT.get {Q : Ent → TermM → Prop} : ∀ {L : List Ent} {T : List TermM}, AllT Q L T → ∀ e ∈ L, ∃ t, Q e t
 | [], [], _, e, he => by simp at he
 | x :: L, t :: T, ⟨a, b⟩, e, he => by
  rcases List.mem_cons.1 he with rfl | he
  ·exact ⟨t, a⟩
  ·exact b.get e he
 | [], _ :: _, h, _, _ => h.elim
 | _ :: _, [], h, _, _ => h.elim
/-- a pending node: it lies in a row of F; its arguments are read in the old world -/
def PendOk (N lo : Nat) (wl : World) (B : Nat) (F : List Nat) (w : World) (e : Ent) (t : TermM) : Prop := e.2.2 + depth t ≤ 1073741824 ∧ e.1 ∈ F ∧ (∃ v, w.cell? ⟨e.1, e.2.1 + 3, none⟩ = some v ∧ HasTs N lo wl v t.args) ∧ ∃ n cap xs, w.ownsRow B 34 4 (.slice (some ⟨e.1, 0, none⟩) n cap) n xs ∧ e.2.1 + 3 < n * 4
theorem PendOk.chg {N lo : Nat} {wl : World} {B : Nat} {F F' S : List Nat} {w w' : World} {e : Ent} {t : TermM} (h : PendOk N lo wl B F w e t) (hc : Chg S w w') (hF : ∀ k ∈ F, k ∈ F') (hS : e.1 ∉ S) : PendOk N lo wl B F' w' e t := by
 obtain ⟨h1, h2, ⟨v, h3, h4⟩, n, cap, xs, h5, h6⟩ := h
 refine ⟨h1, hF _ h2, ⟨v, ?_, h4⟩, n, cap, xs, hc.own h5 (fun g hg => ?_), h6⟩
 ·exact (World.cell?_of_block (a := ⟨e.1, e.2.1 + 3, none⟩) (hc.block _ (block_lt_of_cell h3) hS)).trans h3
 ·simp [Value.ownBlock] at hg; subst hg; exact hS
theorem PendOk.set {N lo : Nat} {wl : World} {B : Nat} {F : List Nat} {w : World} {e : Ent} {t : TermM} (h : PendOk N lo wl B F w e t) (g o : Nat) (u : Value) (hne : (e.1, e.2.1 + 3) ≠ (g, o)) : PendOk N lo wl B F (w.setCell ⟨g, o, none⟩ u) e t := by
 obtain ⟨h1, h2, ⟨v, h3, h4⟩, n, cap, xs, h5, h6⟩ := h
 refine ⟨h1, h2, ⟨v, ?_, h4⟩, ?_⟩
 ·refine (World.cell?_setCell_other w ⟨g, o, none⟩ ⟨e.1, e.2.1 + 3, none⟩ u (fun e' => hne ?_)).trans h3
  have e1 : g = e.1 := congrArg Addr.block e'
  have e2 : o = e.2.1 + 3 := congrArg Addr.off e'
  rw [e1, e2]
 ·obtain ⟨ys, h7, _⟩ := rows_set (lo := B) (F := [e.1]) (P := [(g, o)]) (w := w) (g := g) (o := o) u (by simp) e.1 (by simp) n cap xs h5
  exact ⟨n, cap, ys, h7, h6⟩
end Go.Proofs.YtkkmjaggebjcbaaGreat.termpw
/-
 THE PROGRAM'S copyTerm: a term in memory of its own.
-/
namespace Go.Proofs.YtkkmjaggebjcbaaGreat.termcy
open Go.ChangeShapes Go.WideShapes Go.ChangeAt Go.RowKit
open mem rowl trm trmv terml termb termt termx termz termro termsd termvx termcl termsp termpr termpw

end Go.Proofs.YtkkmjaggebjcbaaGreat.termcy
