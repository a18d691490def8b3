/-
  THE WALK WITH separateArgs: each node's arguments get a row of their own.
-/
import Derived.Test.YtiilamngcoegiaaTermpr
namespace Go.Proofs.Ytiilamngcoegiaa.termpw
open Go.ChangeShapes Go.WideShapes Go.ChangeAt Go.RowKit
open mem rowl trm trmv terml termb termt termx termz termro termsd termvx termcl termsp termpr

def AllT (Q : Ent → TermM → Prop) : List Ent → List TermM → Prop
  | [], [] => True
  | e :: L, t :: T => Q e t ∧ AllT Q L T
  | _, _ => False
theorem AllT.imp {Q Q' : Ent → TermM → Prop} : ∀ {L : List Ent} {T : List TermM}, AllT Q L T → (∀ e ∈ L, ∀ t, Q e t → Q' e t) → AllT Q' L T
  | [], [], _, _ => trivial
  | e :: L, t :: T, ⟨a, b⟩, h => ⟨h e (by simp) t a, b.imp (fun x hx => h x (by simp [hx]))⟩
  | [], _ :: _, h, _ => h.elim
  | _ :: _, [], h, _ => h.elim
theorem AllT.append {Q : Ent → TermM → Prop} : ∀ {L M : List Ent} {T U : List TermM}, AllT Q L T → AllT Q M U → AllT Q (L ++ M) (T ++ U)
  | [], _, [], _, _, h => h
  | _ :: _, _, _ :: _, _, ⟨a, b⟩, h => ⟨a, AllT.append b h⟩
  | [], _, _ :: _, _, h, _ => h.elim
  | _ :: _, _, [], _, h, _ => h.elim
theorem AllT.len {Q : Ent → TermM → Prop} : ∀ {L : List Ent} {T : List TermM}, AllT Q L T → L.length = T.length
  | [], [], _ => rfl
  | _ :: _, _ :: _, ⟨_, b⟩ => by rw [List.length_cons, List.length_cons, AllT.len b]
  | [], _ :: _, h => h.elim
  | _ :: _, [], h => h.elim
theorem AllT.get {Q : Ent → TermM → Prop} : ∀ {L : List Ent} {T : List TermM}, AllT Q L T → ∀ e ∈ L, ∃ t, Q e t
  | [], [], _, e, he => by simp at he
  | x :: L, t :: T, ⟨a, b⟩, e, he => by
    rcases List.mem_cons.1 he with rfl | he
    · exact ⟨t, a⟩
    · exact b.get e he
  | [], _ :: _, h, _, _ => h.elim
  | _ :: _, [], h, _, _ => h.elim
/-- a pending node: it lies in a row of F; its arguments are read in the old world -/
def PendOk (N lo : Nat) (wl : World) (B : Nat) (F : List Nat) (w : World) (e : Ent) (t : TermM) : Prop := e.2.2 + depth t ≤ 1073741824 ∧ e.1 ∈ F ∧ (∃ v, w.cell? ⟨e.1, e.2.1 + 3, none⟩ = some v ∧ HasTs N lo wl v t.args) ∧ ∃ n cap xs, w.ownsRow B 40 4 (.slice (some ⟨e.1, 0, none⟩) n cap) n xs ∧ e.2.1 + 3 < n * 4
theorem PendOk.chg {N lo : Nat} {wl : World} {B : Nat} {F F' S : List Nat} {w w' : World} {e : Ent} {t : TermM} (h : PendOk N lo wl B F w e t) (hc : Chg S w w') (hF : ∀ k ∈ F, k ∈ F') (hS : e.1 ∉ S) : PendOk N lo wl B F' w' e t := by
  obtain ⟨h1, h2, ⟨v, h3, h4⟩, n, cap, xs, h5, h6⟩ := h
  refine ⟨h1, hF _ h2, ⟨v, ?_, h4⟩, n, cap, xs, hc.own h5 (fun g hg => ?_), h6⟩
  · exact (World.cell?_of_block (a := ⟨e.1, e.2.1 + 3, none⟩) (hc.block _ (block_lt_of_cell h3) hS)).trans h3
  · simp [Value.ownBlock] at hg; subst hg; exact hS
theorem PendOk.set {N lo : Nat} {wl : World} {B : Nat} {F : List Nat} {w : World} {e : Ent} {t : TermM} (h : PendOk N lo wl B F w e t) (g o : Nat) (u : Value) (hne : (e.1, e.2.1 + 3) ≠ (g, o)) : PendOk N lo wl B F (w.setCell ⟨g, o, none⟩ u) e t := by
  obtain ⟨h1, h2, ⟨v, h3, h4⟩, n, cap, xs, h5, h6⟩ := h
  refine ⟨h1, h2, ⟨v, ?_, h4⟩, ?_⟩
  · refine (World.cell?_setCell_other w ⟨g, o, none⟩ ⟨e.1, e.2.1 + 3, none⟩ u (fun e' => hne ?_)).trans h3
    have e1 : g = e.1 := congrArg Addr.block e'
    have e2 : o = e.2.1 + 3 := congrArg Addr.off e'
    rw [e1, e2]
  · obtain ⟨ys, h7, _⟩ := rows_set (lo := B) (F := [e.1]) (P := [(g, o)]) (w := w) (g := g) (o := o) u (by simp) e.1 (by simp) n cap xs h5
    exact ⟨n, cap, ys, h7, h6⟩
/-- the relation of the walk -/
def SepR (wl W0 : World) (N lo B : Nat) (F0 : List Nat) (G : World → Prop) (n : Nat) (S : List Nat) (L : List Ent) (w : World) : Prop := ∃ (T : List TermM) (F : List Nat), AllT (PendOk N lo wl B F w) L T ∧ sizes T ≤ n ∧ n ≤ 1073741824 ∧ (∀ k ∈ S, W0.heap.size ≤ k ∧ k < w.heap.size ∧ k ∉ F) ∧
  (∀ k ∈ F, (k ∈ F0 ∨ W0.heap.size ≤ k) ∧ k < w.heap.size) ∧ (∀ k ∈ F0, wl.heap.size ≤ k ∧ k < W0.heap.size) ∧ wl.heap.size ≤ W0.heap.size ∧ Below wl.heap.size wl w ∧ (pos L).Nodup ∧ Inv B W0.heap.size G F L T w ∧ B ≤ W0.heap.size ∧ Chg F0 W0 w ∧ F.Nodup
theorem sizes_ge (T : List TermM) : T.length ≤ sizes T := sizes_len T
theorem sep_keep {wl W0 : World} {N lo B : Nat} {F0 : List Nat} {G : World → Prop} {n : Nat} {S S' : List Nat} {L : List Ent} {w w' : World} (h : SepR wl W0 N lo B F0 G n S L w) (hc : Chg S w w') (hS : ∀ k ∈ S', (k ∈ S ∨ w.heap.size ≤ k) ∧ k < w'.heap.size) : SepR wl W0 N lo B F0 G n S' L w' := by
  obtain ⟨T, F, h1, h2, h3, h4, h5, h6, h7, h8, h9, h10, h11, h12, hFN⟩ := h
  refine ⟨T, F, h1.imp (fun e he t hp => hp.chg hc (fun k hk => hk) (fun hm => (h4 _ hm).2.2 hp.2.1)), h2, h3, fun k hk => ⟨?_, (hS k hk).2, fun hm => ?_⟩, fun k hk => ⟨(h5 k hk).1, Nat.lt_of_lt_of_le (h5 k hk).2 hc.size⟩, h6, h7, h8.trans (hc.below h8.size (fun k hk => by have := (h4 k hk).1; omega)), h9, h10.kept ?_, h11, ⟨hc.os.trans h12.os, hc.tape.trans h12.tape, hc.output.trans h12.output, Nat.le_trans h12.size hc.size, fun k hk hn => (hc.block k (Nat.lt_of_lt_of_le hk h12.size) (fun hm => by have := (h4 k hm).1; omega)).trans (h12.block k hk hn)⟩, hFN⟩
  · rcases (hS k hk).1 with h | h
    · exact (h4 k h).1
    · exact Nat.le_trans h12.size h
  · rcases (hS k hk).1 with h | h
    · exact (h4 k h).2.2 hm
    · have := (h5 k hm).2; omega
  · intro g hg m cap xs hx
    exact ⟨xs, hc.own hx (fun x hx' => by simp [Value.ownBlock] at hx'; subst hx'; exact fun hm => (h4 _ hm).2.2 hg), fun _ _ => rfl⟩
theorem allT_kids {Q : Ent → TermM → Prop} (l : List TermM) (g d : Nat) : ∀ m, m ≤ l.length → (∀ j, j < m → Q (g, 0 + j * 4, d) (l.getD j default)) → AllT Q (kids g 0 d m) ((l.take m).reverse)
  | 0, _, _ => by simp [kids, AllT]
  | m + 1, hm, h => by
    have e : (l.take (m + 1)).reverse = l.getD m default :: (l.take m).reverse := by
      rw [List.take_succ_eq_append_getElem (by omega), List.reverse_append, getD_at (by omega)]; rfl
    rw [e]
    exact ⟨h m (Nat.lt_succ_self _), allT_kids l g d m (by omega) (fun j hj => h j (by omega))⟩
theorem pos_nodup_kids (g d : Nat) : ∀ m, (pos (kids g 0 d m)).Nodup
  | 0 => by simp [pos, kids]
  | m + 1 => by
    have ih := pos_nodup_kids g d m
    unfold pos at ih ⊢
    rw [kids, List.map_cons, List.nodup_cons]
    refine ⟨fun h => ?_, ih⟩
    obtain ⟨_, j, h1, h2⟩ := pos_kids (g := g) (d := d) (m := m) h
    have h3 : 0 + m * 4 + 3 = j * 4 + 3 := h2
    omega
theorem sizes_rev (l T : List TermM) : sizes (l.reverse ++ T) = sizes l + sizes T := by
  simp only [sizes, List.map_append, List.sum_append, List.map_reverse]
  congr 1
  exact List.sum_reverse _
theorem pos_cons_ne {e : Ent} {L : List Ent} (h : (pos (e :: L)).Nodup) : ∀ x ∈ L, (x.1, x.2.1 + 3) ≠ (e.1, e.2.1 + 3) := by
  unfold pos at h
  rw [List.map_cons, List.nodup_cons] at h
  exact fun x hx e => h.1 (by rw [← e]; exact List.mem_map.2 ⟨x, hx, rfl⟩)
theorem sep_visits (wl W0 : World) (N lo B : Nat) (F0 : List Nat) (G : World → Prop) (hB : B ≤ wl.heap.size) : Visits 50 #[] (SepR wl W0 N lo B F0 G) where
  keep := sep_keep
  ent := by
    rintro n S e L w ⟨T, F, h1, h2, h3, h4, h5, h6, h7, h8, h9, h10, h11, h12, hFN⟩
    cases T with
    | nil => exact h1.elim
    | cons t T =>
      obtain ⟨hp, hL⟩ := h1
      have hl := hL.len
      have h13 := sizes_ge T
      have h14 : sizes (t :: T) = size t + sizes T := by simp [sizes]
      exact ⟨(h5 _ hp.2.1).2, fun hm => (h4 _ hm).2.2 hp.2.1, by have := hp.1; omega, h3, by omega⟩
  visit := by
    rintro n S e L w ⟨T, F, h1, h2, h3, h4, h5, h6, h7, h8, h9, h10, h11, h12, hFN⟩
    cases T with
    | nil => exact h1.elim
    | cons t T =>
      obtain ⟨hp, hL⟩ := h1
      have hpc := hp
      obtain ⟨p1, p2, ⟨v, p3, p4⟩, nr, capr, xr, p5, p6⟩ := hp
      have h14 : sizes (t :: T) = size t + sizes T := by simp [sizes]
      have hst := size_eq t
      have hsl := sizes_ge t.args
      have hsp := size_pos t
      have hwe := (h5 _ p2).2
      have hwl : wl.heap.size ≤ e.1 := by
        rcases (h5 _ p2).1 with h | h
        · exact (h6 _ h).1
        · omega
      refine ⟨n - 1, by omega, (sepVis (n := N) (lo := lo) e.1 e.2.1 e.2.2 t v wl w h8 (p4.up (Nat.le_succ N)) (by omega) p3 (p5.frozenAt _)).mono ?_⟩
      rintro ex w' ⟨rfl, w1, v1, vs, hb1, rfl, ho, hargs⟩
      have heS : e.1 ∉ S := fun hm => (h4 _ hm).2.2 p2
      have hsz : w.heap.size ≤ (w1.setCell ⟨e.1, e.2.1 + 3, none⟩ v1).heap.size := by simpa [World.setCell] using hb1.size
      have hblk : ∀ k, k < w.heap.size → k ≠ e.1 → (w1.setCell ⟨e.1, e.2.1 + 3, none⟩ v1).heap[k]? = w.heap[k]? := fun k hk hne => (Below.heap_setCell w1 ⟨e.1, e.2.1 + 3, none⟩ v1 k hne).trans (hb1.block k hk)
      have hcell : (w1.setCell ⟨e.1, e.2.1 + 3, none⟩ v1).cell? ⟨e.1, e.2.1 + 3, none⟩ = some v1 := World.cell?_setCell_same _ _ _ ((hb1.cell (p := ⟨e.1, e.2.1 + 3, none⟩) hwe).trans p3)
      have hbl : Below wl.heap.size wl (w1.setCell ⟨e.1, e.2.1 + 3, none⟩ v1) := (h8.trans (hb1.mono h8.size)).setCell hwl v1
      have hch : Chg F0 W0 (w1.setCell ⟨e.1, e.2.1 + 3, none⟩ v1) := ⟨hb1.os.trans h12.os, hb1.tape.trans h12.tape, hb1.output.trans h12.output, Nat.le_trans h12.size hsz, fun k hk hn => by
        rw [hblk k (Nat.lt_of_lt_of_le hk h12.size) (fun e' => by
          subst e'
          rcases (h5 _ p2).1 with h | h
          · exact hn h
          · omega)]
        exact h12.block k hk hn⟩
      have hLp : AllT (PendOk N lo wl B F (w1.setCell ⟨e.1, e.2.1 + 3, none⟩ v1)) L T := hL.imp (fun x hx u hu => (hu.chg (Chg.of_below (S := []) hb1) (fun k hk => hk) (by simp)).set _ _ _ (pos_cons_ne h9 x hx))
      have h9' : (pos L).Nodup := by
        unfold pos at h9 ⊢
        rw [List.map_cons, List.nodup_cons] at h9
        exact h9.2
      have hS' : ∀ k ∈ S, W0.heap.size ≤ k ∧ k < (w1.setCell ⟨e.1, e.2.1 + 3, none⟩ v1).heap.size ∧ k ∉ F := fun k hk => ⟨(h4 k hk).1, Nat.lt_of_lt_of_le (h4 k hk).2.1 hsz, (h4 k hk).2.2⟩
      have hFs : ∀ k ∈ F, (k ∈ F0 ∨ W0.heap.size ≤ k) ∧ k < (w1.setCell ⟨e.1, e.2.1 + 3, none⟩ v1).heap.size := fun k hk => ⟨(h5 k hk).1, Nat.lt_of_lt_of_le (h5 k hk).2 hsz⟩
      refine ⟨true, rfl, hsz, fun k hk hlt => hblk k hlt (fun e' => heS (by rw [← e']; exact hk)), .inr ⟨rfl, ?_⟩⟩
      rcases ho.2 with ⟨rfl, h0⟩ | ⟨g', cap', cur, rfl, hg1, hg2, hg3, hg4, _⟩
      · have hta : t.args = [] := List.eq_nil_of_length_eq_zero h0
        refine ⟨none, 0, 0, hcell, by omega, by omega, 0, 0, fun h => absurd rfl h, T, F, hLp, by omega, by omega, hS', hFs, h6, h7, hbl, h9', ?_, h11, hch, hFN⟩
        exact h10.visit_nil hb1 hta p2 ⟨nr, capr, xr, p5, p6⟩ h9
      · have hgF : ∀ k ∈ F, k ≠ g' := fun k hk e' => by have := (h5 k hk).2; omega
        have hge : ¬ g' = e.1 := fun e' => hgF _ p2 e'.symm
        have hBw : B ≤ w.heap.size := by have := h8.size; omega
        have hrow : (w1.setCell ⟨e.1, e.2.1 + 3, none⟩ (.slice (some ⟨g', 0, none⟩) t.args.length cap')).ownsRow B 40 4 (.slice (some ⟨g', 0, none⟩) t.args.length cap') t.args.length (fours t.args vs t.args.length) :=
          (Chg.set (S := [e.1]) (by simp) _).own (own_mono ho hBw) (fun x hx => by simp [Value.ownBlock] at hx; subst hx; simpa using hge)
        have hLF : ∀ x ∈ e :: L, x.1 ∈ F := fun x hx => by
          rcases List.mem_cons.1 hx with rfl | hx
          · exact p2
          · obtain ⟨u, hu⟩ := hL.get x hx
            exact hu.2.1
        have hkids : AllT (PendOk N lo wl B (g' :: F) (w1.setCell ⟨e.1, e.2.1 + 3, none⟩ (.slice (some ⟨g', 0, none⟩) t.args.length cap'))) (kids g' 0 (e.2.2 + 1) t.args.length) t.args.reverse := by
          rw [← take_rev t.args rfl]
          refine allT_kids t.args g' (e.2.2 + 1) t.args.length (Nat.le_refl _) (fun j hj => ⟨?_, by simp, ⟨vs j, ?_, (hargs j hj).1⟩, t.args.length, cap', _, hrow, ?_⟩)
          · have h1 := depth_getD hj
            have h2 := depth_eq t
            show e.2.2 + 1 + depth (t.args.getD j default) ≤ 1073741824
            omega
          · have h1 := (fours_at t.args vs t.args.length j hj).2.2.2
            have h2 := hrow.cellAt (j * 4 + 3) (by omega)
            rw [h1] at h2
            show World.cell? _ ⟨g', 0 + j * 4 + 3, none⟩ = _
            rw [Nat.zero_add]
            exact h2
          · show 0 + j * 4 + 3 < _
            omega
        refine ⟨some ⟨g', 0, none⟩, t.args.length, cap', hcell, by omega, hg3, g', 0, fun _ => rfl, t.args.reverse ++ T, g' :: F, hkids.append (hLp.imp (fun x hx u hu => hu.chg (Chg.refl [] _) (fun k hk => by simp [hk]) (by simp))), by rw [sizes_rev]; omega, by omega, fun k hk => ⟨(hS' k hk).1, (hS' k hk).2.1, fun hm => ?_⟩, fun k hk => ?_, h6, h7, hbl, ?_, ?_, h11, hch, List.nodup_cons.2 ⟨fun hm => hgF _ hm rfl, hFN⟩⟩
        · rcases List.mem_cons.1 hm with rfl | hm
          · have := (h4 _ hk).2.1; omega
          · exact (hS' k hk).2.2 hm
        · rcases List.mem_cons.1 hk with rfl | hk
          · refine ⟨.inr (by have := h12.size; omega), ?_⟩
            have := (Array.getElem?_eq_some_iff.1 hg2).1
            simpa [World.setCell] using this
          · exact hFs k hk
        · unfold pos
          rw [List.map_append]
          refine List.nodup_append.2 ⟨pos_nodup_kids g' _ _, h9', fun x hx y hy e' => ?_⟩
          subst e'
          obtain ⟨x1, x2⟩ := x
          obtain ⟨u, hu, hue⟩ := pos_mem (L := L) hy
          exact hgF _ (hLF u (by simp [hu])) (hue.trans (pos_kids hx).1)
        · exact h10.visit hb1 rfl ho (fun j hj => (hargs j hj).2) hBw h12.size (fun k hk => (h5 k hk).2) hLF ⟨nr, capr, xr, p5, p6⟩ h9
/-- what the walk through one element of a row leaves -/
def SepAny (B : Nat) (W : World) (gR i m cap : Nat) (t : TermM) (xs : List Value) (w' : World) : Prop := ∃ (v' : Value) (S : List Nat) (xs' : List Value), w'.ownsRow B 40 4 (.slice (some ⟨gR, 0, none⟩) m cap) m xs' ∧ (∀ p, p ≠ i * 4 + 3 → xs'[p]? = xs[p]?) ∧ xs'[i * 4 + 3]? = some v' ∧ OT 40 (depth t) W.heap.size w' v' t.args S ∧ gR ∉ S
/-- walkTerm with separateArgs at an element of a row of one's own -/
theorem sep_any {N lo B : Nat} (wl W : World) (gR i m cap : Nat) (t : TermM) (v : Value) (xs : List Value) (hbl : Below wl.heap.size wl W) (hB : B ≤ wl.heap.size) (hgl : wl.heap.size ≤ gR) (ho : W.ownsRow B 40 4 (.slice (some ⟨gR, 0, none⟩) m cap) m xs) (hi : i < m) (hc : xs[i * 4 + 3]? = some v) (hv : HasTs N lo wl v t.args) (hs : size t ≤ 1073741823) :
    Calls Try.prog 49 #[.pointer (some ⟨gR, i * 4, none⟩), .func (.func 50) #[] #[]] W fun e w' => e = .returned (.tuple #[]) ∧ SepAny B W gR i m cap t xs w' ∧ Chg [gR] W w' ∧ Below wl.heap.size wl w' := by
  have eg : ∀ args w, (callFunc 50 args).run Try.prog w = .ok (.enter 50 args) w := Go.Proofs.enters_of Try.func50 (by kernel_rfl) rfl
  have hgw := (own_lt ho).2.1
  have hdl := depth_le t
  have hcell : W.cell? ⟨gR, i * 4 + 3, none⟩ = some v := by rw [ho.cellAt _ (by omega)]; exact hc
  have hI : Inv B W.heap.size (SepAny B W gR i m cap t xs) [gR] [(gR, i * 4, 1)] [t] W := by
    intro w' Ss hRK hDn hNd
    cases Ss with
    | nil => exact hDn.elim
    | cons S Ss =>
      obtain ⟨⟨v', h1, h2⟩, h3⟩ := hDn
      cases Ss with
      | cons S' Ss => exact h3.elim
      | nil =>
        obtain ⟨xs', h4, h5⟩ := hRK gR (by simp) m cap xs ho
        refine ⟨v', S, xs', h4, fun p hp => h5 p (fun hm => ?_), ?_, h2, fun hm => ?_⟩
        · simp [pos] at hm
          exact hp hm
        · rw [← h4.cellAt (i * 4 + 3) (by omega)]; exact h1
        · simp only [List.flatten_cons, List.flatten_nil, List.append_nil, List.singleton_append, List.nodup_cons] at hNd
          exact hNd.1 hm
  refine (walk_any _ _ eg _ (sep_visits wl W N lo B [gR] (SepAny B W gR i m cap t xs) hB) (size t) gR (i * 4) W ⟨[t], [gR], ⟨⟨by show 1 + depth t ≤ _; omega, by simp, ⟨v, hcell, hv⟩, m, cap, xs, ho, by show i * 4 + 3 < _; omega⟩, trivial⟩, by simp [sizes], by omega, fun k hk => by simp at hk, fun k hk => ?_, fun k hk => ?_, hbl.size, hbl, by simp [pos], hI, by have := hbl.size; omega, Chg.refl _ _, by simp⟩).mono ?_
  · simp at hk; subst hk; exact ⟨.inl (by simp), hgw⟩
  · simp at hk; subst hk; exact ⟨hgl, hgw⟩
  · rintro e w' ⟨rfl, n', S, T, F, h1, _, _, _, _, _, _, h8, _, h10, _, h12, hFN⟩
    cases T with
    | cons p T => exact h1.elim
    | nil => exact ⟨rfl, h10 w' [] (fun g _ n c ys hy => ⟨ys, hy, fun _ _ => rfl⟩) trivial (by simpa using hFN), h12, h8⟩
end Go.Proofs.Ytiilamngcoegiaa.termpw
