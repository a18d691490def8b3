/-
  THE PROGRAM'S VariablesOf: what is called at the nodes.
-/
import Derived.Test.YtejkkdnjdfehjaaTermsd
namespace Go.Proofs.Ytejkkdnjdfehjaa.termvr
open Go.ChangeShapes Go.WideShapes Go.ChangeAt Go.RowKit
open mem dec rowl trm trmv terml termb termt termx termz termro termsd

/-- the cells of terms without arguments -/
def flatV : List TermM → List Value
  | [] => []
  | t :: l => .int .i64 t.op :: .string (bstr t.name) :: .int .i64 t.sort :: .slice none 0 0 :: flatV l
theorem flatV_len : ∀ l : List TermM, (flatV l).length = l.length * 4
  | [] => rfl
  | t :: l => by simp only [flatV, List.length_cons, flatV_len l]; omega
theorem flatV_append : ∀ l m : List TermM, flatV (l ++ m) = flatV l ++ flatV m
  | [], m => rfl
  | t :: l, m => by simp [flatV, flatV_append l m]
theorem flatV_at : ∀ {l : List TermM} {j : Nat}, j < l.length → Cells4 (flatV l) j (l.getD j default) (.slice none 0 0)
  | [], _, h => by simp at h
  | t :: l, 0, _ => ⟨rfl, rfl, rfl, rfl⟩
  | t :: l, j + 1, h => by
    obtain ⟨a, b, c, d⟩ := flatV_at (l := l) (j := j) (by simpa using h)
    rw [List.getD_cons_succ]
    unfold Cells4
    rw [show (j + 1) * 4 = j * 4 + 4 by omega]
    exact ⟨a, b, c, d⟩
/-- impl.isVariable -/
theorem isVar_any (g o : Nat) (x : Int) (w : World) (h : w.cell? ⟨g, o, none⟩ = some (.int .i64 x)) (r : Bool) (hr : decide (x = -1) = r) :
    Calls Try.prog 59 #[.pointer (some ⟨g, o, none⟩)] w fun e w' => e = .returned (.bool r) ∧ w = w' := by
  have HR : Hid (r = (x == -1)) := Lib.hid (by rw [← hr, Bool.eq_iff_iff]; simp)
  clear hr
  go_enter Try.func59, Try.ntmps59
  go_wp2
  go_ret
  exact ⟨ret_bool HR.out.symm, rfl⟩
theorem without_any (g o : Nat) (op : Int) (l : List UInt8) (s : Int) (w : World) (t0 : w.cell? ⟨g, o, none⟩ = some (.int .i64 op)) (t1 : w.cell? ⟨g, o + 1, none⟩ = some (.string (bstr l))) (t2 : w.cell? ⟨g, o + 2, none⟩ = some (.int .i64 s)) :
    Calls Try.prog 60 #[.pointer (some ⟨g, o, none⟩)] w fun e w' => e = .returned (.agg #[.int .i64 op, .string (bstr l), .int .i64 s, .slice none 0 0]) ∧ Below w.heap.size w w' := by
  have hg := block_lt_of_cell t0
  simp only [] at hg
  go_enter Try.func60, Try.ntmps60
  go_wp2_with fail
  have hne : ¬ w.heap.size = g := by omega
  have hb1 : Below w.heap.size w (w.alloc (.cells #[.int .i64 0, .string { data := #[] }, .int .i64 0, .slice none 0 0] 51)) := (Below.refl _ _).alloc (Nat.le_refl _) _
  have c0 := (hb1.cell (p := ⟨g, o, none⟩) hg).trans t0
  have c1 := (hb1.cell (p := ⟨g, o + 1, none⟩) hg).trans t1
  have c2 := (hb1.cell (p := ⟨g, o + 2, none⟩) hg).trans t2
  go_region_held3 (fun w' => w'.cell? ⟨g, o, none⟩ = some (.int .i64 op) ∧ w'.cell? ⟨g, o + 1, none⟩ = some (.string (bstr l)) ∧ w'.cell? ⟨g, o + 2, none⟩ = some (.int .i64 s))
    (first | assumption | (refine ⟨?_, ?_, ?_⟩ <;> assumption) | (refine ⟨?_, ?_, ?_⟩ <;> (refine (Below.cell (((Below.refl w.heap.size w).alloc (Nat.le_refl _) _).drew) (p := ⟨g, _, none⟩) hg).trans ?_; assumption)))
    (fail)
  go_wp2
  refine bodyPost_ret (v := .agg #[.int .i64 op, .string (bstr l), .int .i64 s, .slice none 0 0]) (by simp [results, Try.results60, go_sem]) rfl ⟨rfl, ?_⟩
  repeat (first | (refine Below.drew ?_) | (refine Below.setCell ?_ (by first | (simp; done) | (simp; omega)) _) | (refine Below.alloc ?_ (by first | (simp; done) | (simp; omega)) _))
  exact Below.refl _ _
abbrev SV (W : World) (x g o c vb : Nat) (v0 va v1 v2 : Value) (w' : World) : Prop := (w'.cell? ⟨x, 0, none⟩ = some v0 ∧ w'.cell? ⟨g, o, none⟩ = some va ∧ w'.cell? ⟨g, o + 1, none⟩ = some v1 ∧ w'.cell? ⟨g, o + 2, none⟩ = some v2) ∧ Chg [c, vb] W w'
theorem keep_vs {W w0 : World} {x g o c vb : Nat} {v0 va v1 v2 : Value} (h : SV W x g o c vb v0 va v1 v2 w0) (b i : Nat) (u : Value) (hx : b ≠ x) (hg : b ≠ g) (hb : b = c ∨ b = vb ∨ W.heap.size ≤ b) : SV W x g o c vb v0 va v1 v2 (w0.setCell ⟨b, i, none⟩ u) := by
  have k : ∀ z y, b ≠ z → (w0.setCell ⟨b, i, none⟩ u).cell? ⟨z, y, none⟩ = w0.cell? ⟨z, y, none⟩ := fun z y hz => World.cell?_setCell_other w0 ⟨b, i, none⟩ ⟨z, y, none⟩ u (fun e => hz (congrArg Addr.block e))
  refine ⟨?_, ⟨h.2.os, h.2.tape, h.2.output, by have := h.2.size; simpa [World.setCell] using this, fun q hq hn => (Below.heap_setCell w0 ⟨b, i, none⟩ u q (fun e => ?_)).trans (h.2.block q hq hn)⟩⟩
  · rw [k x 0 hx, k g _ hg, k g _ hg, k g _ hg]; exact h.1
  · have e' : q = b := e
    subst e'
    simp at hn
    omega
theorem keep_v4 {W w0 : World} {x g o c vb : Nat} {v0 va v1 v2 : Value} (h : SV W x g o c vb v0 va v1 v2 w0) (b i j k l : Nat) (u u1 u2 u3 : Value) (hx : b ≠ x) (hg : b ≠ g) (hb : b = c ∨ b = vb ∨ W.heap.size ≤ b) :
    SV W x g o c vb v0 va v1 v2 ((((w0.setCell ⟨b, i, none⟩ u).setCell ⟨b, j, none⟩ u1).setCell ⟨b, k, none⟩ u2).setCell ⟨b, l, none⟩ u3) :=
  keep_vs (keep_vs (keep_vs (keep_vs h b i u hx hg hb) b j u1 hx hg hb) b k u2 hx hg hb) b l u3 hx hg hb
theorem keep_va {W w0 w1 : World} {x g o c vb : Nat} {v0 va v1 v2 : Value} (h : SV W x g o c vb v0 va v1 v2 w0) (hx : x < W.heap.size) (hg : g < W.heap.size) (hb : Below w0.heap.size w0 w1) : SV W x g o c vb v0 va v1 v2 w1 := by
  have hs := h.2.size
  refine ⟨?_, h.2.trans (Chg.of_below hb)⟩
  rw [hb.cell (p := ⟨x, 0, none⟩) (by show x < _; omega), hb.cell (p := ⟨g, o, none⟩) (by show g < _; omega), hb.cell (p := ⟨g, o + 1, none⟩) (by show g < _; omega), hb.cell (p := ⟨g, o + 2, none⟩) (by show g < _; omega)]
  exact h.1
theorem keep_al {W w0 : World} {x g o c vb : Nat} {v0 va v1 v2 : Value} (h : SV W x g o c vb v0 va v1 v2 w0.drew) (hx : x < W.heap.size) (hg : g < W.heap.size) {ob : Obj} : SV W x g o c vb v0 va v1 v2 (w0.alloc ob).drew := keep_va h hx hg ((Below.refl w0.drew.heap.size w0.drew).alloc (Nat.le_refl _) ob)
theorem keep_an {W w0 : World} {x g o c vb : Nat} {v0 va v1 v2 : Value} (h : SV W x g o c vb v0 va v1 v2 w0) (hx : x < W.heap.size) (hg : g < W.heap.size) {ob : Obj} : SV W x g o c vb v0 va v1 v2 (w0.alloc ob) := keep_va h hx hg ((Below.refl w0.heap.size w0).alloc (Nat.le_refl _) ob)
theorem keep_vg {W w0 w1 : World} {x g o c vb : Nat} {v0 va v1 v2 : Value} (h : SV W x g o c vb v0 va v1 v2 w0) (hx : x < W.heap.size) (hg : g < W.heap.size) (h1 : x ≠ vb) (h2 : g ≠ vb) (hgr : w0.grownBy w1 (some vb)) : SV W x g o c vb v0 va v1 v2 w1 := by
  have hs := h.2.size
  have k : ∀ z y, z ≠ vb → z < W.heap.size → w1.cell? ⟨z, y, none⟩ = w0.cell? ⟨z, y, none⟩ := fun z y hz hzs => hgr.cell_far ⟨z, y, none⟩ (by show z < _; omega) (by show some z ≠ some vb; intro e; injection e; omega)
  refine ⟨?_, h.2.trans ⟨hgr.os, hgr.tape, hgr.output, hgr.size, fun q hq hn => hgr.block q hq (by intro e; injection e; simp at hn; omega)⟩⟩
  rw [k x 0 h1 hx, k g _ h2 hg, k g _ h2 hg, k g _ h2 hg]; exact h.1
theorem without_sv {W w0 : World} {x g o c vb : Nat} {v0 : Value} {l : List UInt8} {s : Int} (h : SV W x g o c vb v0 (.int .i64 (-1)) (.string (bstr l)) (.int .i64 s) w0) :
    Calls Try.prog 60 #[.pointer (some ⟨g, o, none⟩)] w0 fun e w' => e = .returned (.agg #[.int .i64 (-1), .string (bstr l), .int .i64 s, .slice none 0 0]) ∧ Below w0.heap.size w0 w' := without_any g o (-1) l s w0 h.1.2.1 h.1.2.2.1 h.1.2.2.2
theorem one4 (w : World) (a b c d : Value) (t : TypeId) : ∀ (j : Nat) (x : Value), [a, b, c, d][j]? = some x → (w.alloc (.cells #[a, b, c, d] t)).cell? ((⟨w.heap.size, 0, none⟩ : Addr).add j) = some x := by
  intro j x hj
  match j, hj with
  | 0, hj => simp at hj; subst hj; simp [Addr.add]
  | 1, hj => simp at hj; subst hj; simp [Addr.add]
  | 2, hj => simp at hj; subst hj; simp [Addr.add]
  | 3, hj => simp at hj; subst hj; simp [Addr.add]
theorem at4 (w : World) (a b c d : Value) (t : TypeId) (z : Nat) (h : z = w.heap.size) : ∀ (j : Nat) (x : Value), [a, b, c, d][j]? = some x → (w.alloc (.cells #[a, b, c, d] t)).cell? ((⟨z, 0, none⟩ : Addr).add j) = some x := by
  subst h; exact one4 w a b c d t
theorem at4b (W : World) {w1 : World} (a b c d : Value) (t : TypeId) (z : Nat) (h : z = W.heap.size) (hb : Below (W.alloc (.cells #[a, b, c, d] t)).drew.heap.size (W.alloc (.cells #[a, b, c, d] t)).drew w1) : ∀ (j : Nat) (x : Value), [a, b, c, d][j]? = some x → w1.cell? ((⟨z, 0, none⟩ : Addr).add j) = some x := by
  intro j x hx
  have h1 := at4 W a b c d t z h j x hx
  rw [Addr.add_lit] at h1 ⊢
  exact (hb.cell (p := ⟨z, 0 + j, none⟩) (by subst h; simp)).trans h1
theorem four_one {a b c d : Value} (h : a.oneCell' = true) (h1 : b.oneCell' = true) (h2 : c.oneCell' = true) (h3 : d.oneCell' = true) : ∀ x ∈ [a, b, c, d], x.oneCell' = true := by
  intro x hx
  simp at hx
  rcases hx with rfl | rfl | rfl | rfl
  · exact h
  · exact h1
  · exact h2
  · exact h3
/-- four cells written behind a row of variables -/
theorem set4_flat (V : List TermM) (k : Nat) (hk : k = V.length) (a b c d a' b' c' d' : Value) : ((((flatV V ++ [a, b, c, d]).set (k * 4) a').set (k * 4 + 1) b').set (k * 4 + 2) c').set (k * 4 + 3) d' = flatV V ++ [a', b', c', d'] := by
  have h := flatV_len V
  rw [← hk] at h
  rw [List.set_append_right _ _ (by omega), List.set_append_right _ _ (by omega), List.set_append_right _ _ (by omega), List.set_append_right _ _ (by omega), h]
  simp [Nat.add_sub_cancel_left]
theorem far_own {w : World} {B n : Nat} {e : TypeId} {size : Nat} {g cap : Nat} {xs : List Value} (h : w.ownsRow B e size (.slice (some ⟨g, 0, none⟩) n cap) n xs) (c : Nat) (hne : ¬ g = c) (u : Value) : (w.setCell ⟨c, 0, none⟩ u).ownsRow B e size (.slice (some ⟨g, 0, none⟩) n cap) n xs :=
  (Chg.set (S := [c]) (by simp) u).own h (fun x hx => by simp [Value.ownBlock] at hx; subst hx; simpa using hne)
def Fin4 (B c g4 k cap4 : Nat) (V : List TermM) (tn : List UInt8) (ts : Int) (w' : World) : Prop := w'.cell? ⟨c, 0, none⟩ = some (.slice (some ⟨g4, 0, none⟩) (k + 1) cap4) ∧ w'.frozen? ⟨c, 0, none⟩ = false ∧ w'.ownsRow B 51 4 (.slice (some ⟨g4, 0, none⟩) (k + 1) cap4) (k + 1) (flatV (V ++ [var tn ts]))
theorem own_four {w : World} {B k g4 cap4 : Nat} {V : List TermM} (hk : k = V.length) {a b d e : Value} {tn : List UInt8} {ts : Int} (h : w.ownsRow B 51 4 (.slice (some ⟨g4, 0, none⟩) (k + 1) cap4) (k + 1) (flatV V ++ [a, b, d, e])) :
    ((((w.setCell ⟨g4, k * 4, none⟩ (.int .i64 (-1))).setCell ⟨g4, k * 4 + 1, none⟩ (.string (bstr tn))).setCell ⟨g4, k * 4 + 2, none⟩ (.int .i64 ts)).setCell ⟨g4, k * 4 + 3, none⟩ (.slice none 0 0)).ownsRow B 51 4 (.slice (some ⟨g4, 0, none⟩) (k + 1) cap4) (k + 1) (flatV (V ++ [var tn ts])) := by
  have h' := setCell_own (setCell_own (setCell_own (setCell_own h (k * 4) (.int .i64 (-1))) (k * 4 + 1) (.string (bstr tn))) (k * 4 + 2) (.int .i64 ts)) (k * 4 + 3) (.slice none 0 0)
  rw [set4_flat V k hk] at h'
  rw [flatV_append]
  exact h'
theorem four_far {w : World} {c g4 a0 a1 a2 a3 : Nat} {u0 u1 u2 u3 : Value} (hne : ¬ g4 = c) {r : Option Value} {f : Bool} (h : w.cell? ⟨c, 0, none⟩ = r) (hf : w.frozen? ⟨c, 0, none⟩ = f) :
    ((((w.setCell ⟨g4, a0, none⟩ u0).setCell ⟨g4, a1, none⟩ u1).setCell ⟨g4, a2, none⟩ u2).setCell ⟨g4, a3, none⟩ u3).cell? ⟨c, 0, none⟩ = r ∧ ((((w.setCell ⟨g4, a0, none⟩ u0).setCell ⟨g4, a1, none⟩ u1).setCell ⟨g4, a2, none⟩ u2).setCell ⟨g4, a3, none⟩ u3).frozen? ⟨c, 0, none⟩ = f := by
  have k : ∀ (w : World) i u, (w.setCell ⟨g4, i, none⟩ u).cell? ⟨c, 0, none⟩ = w.cell? ⟨c, 0, none⟩ := fun w i u => World.cell?_setCell_other w ⟨g4, i, none⟩ ⟨c, 0, none⟩ u (fun e => hne (congrArg Addr.block e))
  refine ⟨?_, ?_⟩
  · rw [k, k, k, k]; exact h
  · rw [World.frozen?_setCell, World.frozen?_setCell, World.frozen?_setCell, World.frozen?_setCell]; exact hf
theorem fin_a {w : World} {B c g4 k cap4 : Nat} {V : List TermM} (hk : k = V.length) {a b d e old : Value} {tn : List UInt8} {ts : Int} (h : w.ownsRow B 51 4 (.slice (some ⟨g4, 0, none⟩) (k + 1) cap4) (k + 1) (flatV V ++ [a, b, d, e])) (hne : ¬ g4 = c) (hc : w.cell? ⟨c, 0, none⟩ = some old) (hf : w.frozen? ⟨c, 0, none⟩ = false) :
    Fin4 B c g4 k cap4 V tn ts (((((w.setCell ⟨g4, k * 4, none⟩ (.int .i64 (-1))).setCell ⟨g4, k * 4 + 1, none⟩ (.string (bstr tn))).setCell ⟨g4, k * 4 + 2, none⟩ (.int .i64 ts)).setCell ⟨g4, k * 4 + 3, none⟩ (.slice none 0 0)).setCell ⟨c, 0, none⟩ (.slice (some ⟨g4, 0, none⟩) (k + 1) cap4)) := by
  obtain ⟨h1, h2⟩ := four_far (a0 := k * 4) (a1 := k * 4 + 1) (a2 := k * 4 + 2) (a3 := k * 4 + 3) (u0 := .int .i64 (-1)) (u1 := .string (bstr tn)) (u2 := .int .i64 ts) (u3 := .slice none 0 0) hne hc hf
  exact ⟨World.cell?_setCell_same _ _ _ h1, by rw [World.frozen?_setCell]; exact h2, far_own (own_four hk h) c hne _⟩
theorem fin_b {w : World} {B c g4 k cap4 : Nat} {V : List TermM} (hk : k = V.length) {a b d e old : Value} {tn : List UInt8} {ts : Int} (h : w.ownsRow B 51 4 (.slice (some ⟨g4, 0, none⟩) (k + 1) cap4) (k + 1) (flatV V ++ [a, b, d, e])) (hne : ¬ g4 = c) (hc : w.cell? ⟨c, 0, none⟩ = some old) (hf : w.frozen? ⟨c, 0, none⟩ = false) :
    Fin4 B c g4 k cap4 V tn ts (((((w.setCell ⟨c, 0, none⟩ (.slice (some ⟨g4, 0, none⟩) (k + 1) cap4)).setCell ⟨g4, k * 4, none⟩ (.int .i64 (-1))).setCell ⟨g4, k * 4 + 1, none⟩ (.string (bstr tn))).setCell ⟨g4, k * 4 + 2, none⟩ (.int .i64 ts)).setCell ⟨g4, k * 4 + 3, none⟩ (.slice none 0 0)) := by
  obtain ⟨h1, h2⟩ := four_far (a0 := k * 4) (a1 := k * 4 + 1) (a2 := k * 4 + 2) (a3 := k * 4 + 3) (u0 := .int .i64 (-1)) (u1 := .string (bstr tn)) (u2 := .int .i64 ts) (u3 := .slice none 0 0) hne (World.cell?_setCell_same w ⟨c, 0, none⟩ (.slice (some ⟨g4, 0, none⟩) (k + 1) cap4) hc) ((World.frozen?_setCell _ _ _ _).trans hf)
  exact ⟨h1, h2, own_four hk (far_own h c hne _)⟩
/-- what a call at a node leaves -/
def VarPost (B c vb k : Nat) (op : Int) (name : List UInt8) (sort : Int) (V : List TermM) (w : World) (ex : Ending) (w' : World) : Prop := (op ≠ -1 ∧ ex = .returned (.bool true) ∧ Below w.heap.size w w') ∨
  (op = -1 ∧ ex = .returned (.bool false) ∧ ∃ vb' cap', Chg [c, vb] w w' ∧ (vb' = vb ∨ w.heap.size ≤ vb') ∧ Fin4 B c vb' k cap' V name sort w')
set_option maxRecDepth 50000 in
set_option maxHeartbeats 8000000 in
theorem varVis (B c vb k cap g o d : Nat) (t : TermM) (V : List TermM) (w : World) (hk : k = V.length) (hk2 : k ≤ 1073741824) (hne : c ≠ vb) (hB : B ≤ w.heap.size)
    (h : w.cell? ⟨c, 0, none⟩ = some (.slice (some ⟨vb, 0, none⟩) k cap)) (hf : w.frozen? ⟨c, 0, none⟩ = false) (ho : w.ownsRow B 51 4 (.slice (some ⟨vb, 0, none⟩) k cap) k (flatV V))
    (t0 : w.cell? ⟨g, o, none⟩ = some (.int .i64 t.op)) (t1 : w.cell? ⟨g, o + 1, none⟩ = some (.string (bstr t.name))) (t2 : w.cell? ⟨g, o + 2, none⟩ = some (.int .i64 t.sort)) (hgv : g ≠ vb) (hgc : g ≠ c) :
    Calls Try.prog 58 (#[placeV (g, o, d)] ++ #[.pointer (some ⟨c, 0, none⟩)]) w (VarPost B c vb k t.op t.name t.sort V w) := by
  have _ := hB
  have hc := block_lt_of_cell h
  have hg := block_lt_of_cell t0
  simp only [] at hc hg
  obtain ⟨hbv, hvw, hkc⟩ := own_lt ho
  obtain ⟨j0, hij, hy0, hy1, hy2⟩ := info_parts info_term
  have HO := Lib.hid ho
  have HK := Lib.hid hk
  have HOP := Lib.hid (show t.op = -1 ∨ t.op ≠ -1 by omega)
  obtain ⟨to, hto⟩ : ∃ q, q = t.op := ⟨_, rfl⟩
  obtain ⟨tn, htn⟩ : ∃ q, q = t.name := ⟨_, rfl⟩
  obtain ⟨ts, hts⟩ : ∃ q, q = t.sort := ⟨_, rfl⟩
  rw [← hto] at t0
  rw [← htn] at t1
  rw [← hts] at t2
  rw [← hto, ← htn, ← hts]
  clear ho hk hto htn hts HOP
  unfold placeV ptr
  show Calls _ _ #[.agg #[.pointer (some ⟨g, o, none⟩), .int .i64 d], .pointer (some ⟨c, 0, none⟩)] _ _
  go_enter Try.func58, Try.ntmps58
  go_wp2_with fail
  have hb1 : Below w.heap.size w (w.alloc (.cells #[.pointer (some ⟨g, o, none⟩), .int .i64 d] 105)) := (Below.refl _ _).alloc (Nat.le_refl _) _
  have p0 : (w.alloc (.cells #[.pointer (some ⟨g, o, none⟩), .int .i64 d] 105)).cell? ⟨w.heap.size, 0, none⟩ = some (.pointer (some ⟨g, o, none⟩)) := by simp
  have hz1 : (w.alloc (.cells #[.pointer (some ⟨g, o, none⟩), .int .i64 d] 105)).heap.size = w.heap.size + 1 := by simp
  generalize w.alloc (.cells #[.pointer (some ⟨g, o, none⟩), .int .i64 d] 105) = W at hb1 p0 hz1 ⊢
  have kg : ∀ y, w.cell? ⟨g, y, none⟩ = W.cell? ⟨g, y, none⟩ := fun y => (hb1.cell (p := ⟨g, y, none⟩) hg).symm
  rw [kg] at t0 t1 t2
  have hc1 := (hb1.cell (p := ⟨c, 0, none⟩) hc).trans h
  have hf1 := (hb1.frozen (p := ⟨c, 0, none⟩) hc).trans hf
  have HO1 := Lib.hid (own_below HO.out hb1)
  clear kg h hf
  by_cases hv : to = -1
  case neg =>
    refine (isVar_any g o to _ t0 false (decide_eq_false hv)).mono ?_
    rintro e w' ⟨rfl, rfl⟩
    go_wp2
    go_ret
    exact .inl ⟨hv, rfl, hb1⟩
  subst hv
  refine (isVar_any g o (-1) _ t0 true (by simp)).mono ?_
  rintro e w' ⟨rfl, rfl⟩
  have hx : w.heap.size < W.heap.size := by omega
  have hgW : g < W.heap.size := by omega
  have hcW : c < W.heap.size := by omega
  have hxv : w.heap.size ≠ vb := by omega
  have hxc : ¬ c = w.heap.size := by omega
  have hkc1 : (0 : Int) ≤ (k : Int) := by omega
  have hkc2 : (k : Int) < (k : Int) + 1 := by omega
  have hcx : c ≠ w.heap.size := by omega
  have hcg : c ≠ g := fun h => hgc h.symm
  go_wp2_with fail
  refine wp_region_noPanic ?_
  refine wp_region_held_drew (S := (SV W w.heap.size g o c vb (.pointer (some ⟨g, o, none⟩)) (.int .i64 (-1)) (.string (bstr tn)) (.int .i64 ts))) (by kernel_rfl) ?_ (fun hHd0 => ?_)
  · refine ⟨⟨?_, ?_, ?_, ?_⟩, Chg.of_below (Below.refl _ _).drew⟩ <;> assumption
  refine wpAnyH_take (i := 1) (v := ?_) rfl (by kernel_rfl) (by kernel_rfl) (by kernel_rfl) (fun _ _ _ h => h) (Or.inl ⟨by rfl, ?_⟩) (by with_reducible assumption) ?_
  rotate_left
  · intro w hSw; (try dsimp only at hSw); go_simp <;> with_reducible rfl
  (try simp only [Act.put]); (try simp only [List.setIfInBounds_toArray]); (try simp only [List.set_cons_succ, List.set_cons_zero])
  refine wpAnyH_take (i := 2) (v := ?_) rfl (by kernel_rfl) (by kernel_rfl) (by kernel_rfl) (fun _ _ _ h => h) (Or.inl ⟨by rfl, ?_⟩) (by with_reducible assumption) ?_
  rotate_left
  · intro w hSw; (try dsimp only at hSw); go_simp <;> with_reducible rfl
  (try simp only [Act.put]); (try simp only [List.setIfInBounds_toArray]); (try simp only [List.set_cons_succ, List.set_cons_zero])
  refine wpAnyH_ready (rs := [0, 3, 5]) (by kernel_rfl) (by simp) ?_
  refine AllReadyH.cons (o := _) rfl (fun K hK => ?_) ?_
  · go_simp
    refine hK.out _ _ ?_ (fun hHd1 => ?_)
    · (try dsimp only); first | ((with_reducible refine keep_vs ?_ c _ _ hcx hcg (.inl rfl)); with_reducible assumption) | ((with_reducible refine keep_v4 ?_ g4 _ _ _ _ _ _ _ _ hb4x hb4g hb4m); with_reducible assumption) | (with_reducible assumption) | ((with_reducible refine keep_al ?_ hx hgW); with_reducible assumption) | ((with_reducible refine keep_an ?_ hx hgW); with_reducible assumption) | (refine ⟨⟨?_, ?_, ?_, ?_⟩, Chg.of_below (Below.refl _ _).drew⟩ <;> assumption)
    clear hK K hHd0
    (try simp only [Act.put]); (try simp only [List.setIfInBounds_toArray]); (try simp only [List.set_cons_succ, List.set_cons_zero])
    refine wpAnyH_take (i := 4) (v := ?_) rfl (by kernel_rfl) (by kernel_rfl) (by kernel_rfl) (fun _ _ _ h => h) (Or.inl ⟨by rfl, ?_⟩) (by with_reducible assumption) ?_
    rotate_left
    · intro w hSw; (try dsimp only at hSw); go_simp <;> with_reducible rfl
    (try simp only [Act.put]); (try simp only [List.setIfInBounds_toArray]); (try simp only [List.set_cons_succ, List.set_cons_zero])
    refine wpAnyH_ready (rs := [3, 5]) (by kernel_rfl) (by simp) ?_
    refine AllReadyH.cons (o := _) rfl (fun K hK => ?_) ?_
    · (go_simp; refine (without_sv (W := W) (x := w.heap.size) (g := g) (o := o) (c := c) (vb := vb) (l := tn) (s := ts) (by with_reducible assumption)).mono ?_; rintro e w1 ⟨rfl, hbw⟩; have hB3 : Below W.heap.size W w1 := (Below.refl W.heap.size W).drew.trans (hbw.mono (Nat.le_refl _)); have hsz3 := hB3.size; have hc1w := (hB3.cell (p := ⟨c, 0, none⟩) hcW).trans hc1; have hf1w := (hB3.frozen (p := ⟨c, 0, none⟩) hcW).trans hf1; have hcw1 : c < w1.heap.size := (by omega); have HO3 := Lib.hid (own_below HO1.out hB3); have hS1 := keep_va (by with_reducible assumption) hx hgW hbw; (try dsimp only))
      refine hK.out _ _ ?_ (fun hHd2 => ?_)
      · (try dsimp only); first | ((with_reducible refine keep_vs ?_ c _ _ hcx hcg (.inl rfl)); with_reducible assumption) | ((with_reducible refine keep_v4 ?_ g4 _ _ _ _ _ _ _ _ hb4x hb4g hb4m); with_reducible assumption) | (with_reducible assumption) | ((with_reducible refine keep_al ?_ hx hgW); with_reducible assumption) | ((with_reducible refine keep_an ?_ hx hgW); with_reducible assumption) | (refine ⟨⟨?_, ?_, ?_, ?_⟩, Chg.of_below (Below.refl _ _).drew⟩ <;> assumption)
      clear hK K hHd1
      (try simp only [Act.put]); (try simp only [List.setIfInBounds_toArray]); (try simp only [List.set_cons_succ, List.set_cons_zero])
      refine wpAnyH_ready (rs := [5]) (by kernel_rfl) (by simp) ?_
      refine AllReadyH.cons (o := _) rfl (fun K hK => ?_) ?_
      · go_simp
        refine hK.out _ _ ?_ (fun hHd3 => ?_)
        · (try dsimp only); first | ((with_reducible refine keep_vs ?_ c _ _ hcx hcg (.inl rfl)); with_reducible assumption) | ((with_reducible refine keep_v4 ?_ g4 _ _ _ _ _ _ _ _ hb4x hb4g hb4m); with_reducible assumption) | (with_reducible assumption) | ((with_reducible refine keep_al ?_ hx hgW); with_reducible assumption) | ((with_reducible refine keep_an ?_ hx hgW); with_reducible assumption) | (refine ⟨⟨?_, ?_, ?_, ?_⟩, Chg.of_below (Below.refl _ _).drew⟩ <;> assumption)
        clear hK K hHd2
        (try simp only [Act.put]); (try simp only [List.setIfInBounds_toArray]); (try simp only [List.set_cons_succ, List.set_cons_zero])
        refine wpAnyH_ready (rs := [6]) (by kernel_rfl) (by simp) ?_
        refine AllReadyH.cons (o := _) rfl (fun K hK => ?_) ?_
        · (refine step_append_d (by rfl) _ _ _ (by rfl) B 51 j0 _ 4 56 Try.underlying49 hij hy0 hy1 hy2 rfl (by omega) vb k cap (flatV V) (by rfl) (own_below HO3.out ((Below.refl _ _).alloc (Nat.le_refl _) _)) ⟨w1.heap.size, 0, none⟩ 1 1 [.int .i64 0, .string { data := #[] }, .int .i64 0, .slice none 0 0] (by rfl) (by rfl) (fun q x hq => at4 w1 _ _ _ _ _ _ rfl q x hq) (four_one rfl rfl rfl rfl) (by unfold maxLen; omega) (by omega) (by first | omega | (simp; omega)) ?_; intro g4 cap4 w4 hown4 hgr4 hg4 hlt4 hdr4; have hS4 := keep_vg (by with_reducible assumption) hx hgW hxv hgv hgr4; obtain ⟨⟨u0, e0⟩, f0⟩ := own_get hown4 (i := k * 4) (by omega); obtain ⟨⟨u1, e1⟩, f1⟩ := own_get hown4 (i := k * 4 + 1) (by omega); obtain ⟨⟨u2, e2⟩, f2⟩ := own_get hown4 (i := k * 4 + 2) (by omega); obtain ⟨⟨u3, e3⟩, f3⟩ := own_get hown4 (i := k * 4 + 3) (by omega); have hc4 := (hgr4.cell_far ⟨c, 0, none⟩ (by first | omega | (simp; omega)) (by show some c ≠ some vb; intro e; injection e; omega)).trans ((((Below.refl w1.heap.size w1).alloc (Nat.le_refl _) _).cell (p := ⟨c, 0, none⟩) hcw1).trans hc1w); have hf4 := (hgr4.frozen_far ⟨c, 0, none⟩ (by first | omega | (simp; omega)) (by show some c ≠ some vb; intro e; injection e; omega)).trans ((((Below.refl w1.heap.size w1).alloc (Nat.le_refl _) _).frozen (p := ⟨c, 0, none⟩) hcw1).trans hf1w); have hne4 : ¬ g4 = c := (by rcases hg4 with h | h <;> simp [h] <;> omega); have hne5 : ¬ c = g4 := fun h => hne4 h.symm; have hb4x : g4 ≠ w.heap.size := (by rcases hg4 with h | h <;> simp [h] <;> omega); have hb4g : g4 ≠ g := (by rcases hg4 with h | h <;> simp [h] <;> omega); have hb4m : g4 = c ∨ g4 = vb ∨ W.heap.size ≤ g4 := (by rcases hg4 with h | h <;> simp [h] <;> omega))
          refine hK.out _ _ ?_ (fun hHd4 => ?_)
          · (try dsimp only); first | ((with_reducible refine keep_vs ?_ c _ _ hcx hcg (.inl rfl)); with_reducible assumption) | ((with_reducible refine keep_v4 ?_ g4 _ _ _ _ _ _ _ _ hb4x hb4g hb4m); with_reducible assumption) | (with_reducible assumption) | ((with_reducible refine keep_al ?_ hx hgW); with_reducible assumption) | ((with_reducible refine keep_an ?_ hx hgW); with_reducible assumption) | (refine ⟨⟨?_, ?_, ?_, ?_⟩, Chg.of_below (Below.refl _ _).drew⟩ <;> assumption)
          clear hK K hHd3
          (try simp only [Act.put]); (try simp only [List.setIfInBounds_toArray]); (try simp only [List.set_cons_succ, List.set_cons_zero])
          refine wpAnyH_take (i := 7) (v := ?_) rfl (by kernel_rfl) (by kernel_rfl) (by kernel_rfl) (fun _ _ _ h => h) (Or.inl ⟨by rfl, ?_⟩) (by with_reducible assumption) ?_
          rotate_left
          · intro w hSw; (try dsimp only at hSw); go_simp <;> with_reducible rfl
          (try simp only [Act.put]); (try simp only [List.setIfInBounds_toArray]); (try simp only [List.set_cons_succ, List.set_cons_zero])
          refine wpAnyH_ready (rs := [8, 9]) (by kernel_rfl) (by simp) ?_
          refine AllReadyH.cons (o := _) rfl (fun K hK => ?_) ?_
          · go_simp
            refine hK.out _ _ ?_ (fun hHd5 => ?_)
            · (try dsimp only); first | ((with_reducible refine keep_vs ?_ c _ _ hcx hcg (.inl rfl)); with_reducible assumption) | ((with_reducible refine keep_v4 ?_ g4 _ _ _ _ _ _ _ _ hb4x hb4g hb4m); with_reducible assumption) | (with_reducible assumption) | ((with_reducible refine keep_al ?_ hx hgW); with_reducible assumption) | ((with_reducible refine keep_an ?_ hx hgW); with_reducible assumption) | (refine ⟨⟨?_, ?_, ?_, ?_⟩, Chg.of_below (Below.refl _ _).drew⟩ <;> assumption)
            clear hK K hHd4
            (try simp only [Act.put]); (try simp only [List.setIfInBounds_toArray]); (try simp only [List.set_cons_succ, List.set_cons_zero])
            refine wpAnyH_ready (rs := [9]) (by kernel_rfl) (by simp) ?_
            refine AllReadyH.cons (o := _) rfl (fun K hK => ?_) ?_
            · go_simp
              refine hK.out _ _ ?_ (fun hHd6 => ?_)
              · (try dsimp only); first | ((with_reducible refine keep_vs ?_ c _ _ hcx hcg (.inl rfl)); with_reducible assumption) | ((with_reducible refine keep_v4 ?_ g4 _ _ _ _ _ _ _ _ hb4x hb4g hb4m); with_reducible assumption) | (with_reducible assumption) | ((with_reducible refine keep_al ?_ hx hgW); with_reducible assumption) | ((with_reducible refine keep_an ?_ hx hgW); with_reducible assumption) | (refine ⟨⟨?_, ?_, ?_, ?_⟩, Chg.of_below (Below.refl _ _).drew⟩ <;> assumption)
              clear hK K hHd5
              (try simp only [Act.put]); (try simp only [List.setIfInBounds_toArray]); (try simp only [List.set_cons_succ, List.set_cons_zero])
              refine wpAnyH_done (by kernel_rfl) ?_ _
              refine NoPanic.normal ?_
              have hCH : Chg [c, vb] W _ := (by with_reducible assumption : _ ∧ Chg [c, vb] W _).2
              go_wp2
              go_ret
              refine .inr ⟨rfl, rfl, g4, cap4, (Chg.of_below hb1).trans hCH, ?_, ?_⟩
              · rcases hg4 with h | h
                · exact .inl h
                · right; rw [h]; first | omega | (simp; omega)
              · first | (with_reducible exact fin_a HK.out hown4 hne4 hc4 hf4) | (with_reducible exact fin_b HK.out hown4 hne4 hc4 hf4)
            exact AllReadyH.nil
          refine AllReadyH.cons (o := _) rfl (fun K hK => ?_) ?_
          · go_simp
            refine hK.out _ _ ?_ (fun hHd7 => ?_)
            · (try dsimp only); first | ((with_reducible refine keep_vs ?_ c _ _ hcx hcg (.inl rfl)); with_reducible assumption) | ((with_reducible refine keep_v4 ?_ g4 _ _ _ _ _ _ _ _ hb4x hb4g hb4m); with_reducible assumption) | (with_reducible assumption) | ((with_reducible refine keep_al ?_ hx hgW); with_reducible assumption) | ((with_reducible refine keep_an ?_ hx hgW); with_reducible assumption) | (refine ⟨⟨?_, ?_, ?_, ?_⟩, Chg.of_below (Below.refl _ _).drew⟩ <;> assumption)
            clear hK K hHd4
            (try simp only [Act.put]); (try simp only [List.setIfInBounds_toArray]); (try simp only [List.set_cons_succ, List.set_cons_zero])
            refine wpAnyH_ready (rs := [8]) (by kernel_rfl) (by simp) ?_
            refine AllReadyH.cons (o := _) rfl (fun K hK => ?_) ?_
            · go_simp
              refine hK.out _ _ ?_ (fun hHd8 => ?_)
              · (try dsimp only); first | ((with_reducible refine keep_vs ?_ c _ _ hcx hcg (.inl rfl)); with_reducible assumption) | ((with_reducible refine keep_v4 ?_ g4 _ _ _ _ _ _ _ _ hb4x hb4g hb4m); with_reducible assumption) | (with_reducible assumption) | ((with_reducible refine keep_al ?_ hx hgW); with_reducible assumption) | ((with_reducible refine keep_an ?_ hx hgW); with_reducible assumption) | (refine ⟨⟨?_, ?_, ?_, ?_⟩, Chg.of_below (Below.refl _ _).drew⟩ <;> assumption)
              clear hK K hHd7
              (try simp only [Act.put]); (try simp only [List.setIfInBounds_toArray]); (try simp only [List.set_cons_succ, List.set_cons_zero])
              refine wpAnyH_done (by kernel_rfl) ?_ _
              refine NoPanic.normal ?_
              have hCH : Chg [c, vb] W _ := (by with_reducible assumption : _ ∧ Chg [c, vb] W _).2
              go_wp2
              go_ret
              refine .inr ⟨rfl, rfl, g4, cap4, (Chg.of_below hb1).trans hCH, ?_, ?_⟩
              · rcases hg4 with h | h
                · exact .inl h
                · right; rw [h]; first | omega | (simp; omega)
              · first | (with_reducible exact fin_a HK.out hown4 hne4 hc4 hf4) | (with_reducible exact fin_b HK.out hown4 hne4 hc4 hf4)
            exact AllReadyH.nil
          exact AllReadyH.nil
        exact AllReadyH.nil
      exact AllReadyH.nil
    refine AllReadyH.cons (o := _) rfl (fun K hK => ?_) ?_
    · go_simp
      refine hK.out _ _ ?_ (fun hHd9 => ?_)
      · (try dsimp only); first | ((with_reducible refine keep_vs ?_ c _ _ hcx hcg (.inl rfl)); with_reducible assumption) | ((with_reducible refine keep_v4 ?_ g4 _ _ _ _ _ _ _ _ hb4x hb4g hb4m); with_reducible assumption) | (with_reducible assumption) | ((with_reducible refine keep_al ?_ hx hgW); with_reducible assumption) | ((with_reducible refine keep_an ?_ hx hgW); with_reducible assumption) | (refine ⟨⟨?_, ?_, ?_, ?_⟩, Chg.of_below (Below.refl _ _).drew⟩ <;> assumption)
      clear hK K hHd1
      (try simp only [Act.put]); (try simp only [List.setIfInBounds_toArray]); (try simp only [List.set_cons_succ, List.set_cons_zero])
      refine wpAnyH_ready (rs := [3]) (by kernel_rfl) (by simp) ?_
      refine AllReadyH.cons (o := _) rfl (fun K hK => ?_) ?_
      · (go_simp; refine (without_sv (W := W) (x := w.heap.size) (g := g) (o := o) (c := c) (vb := vb) (l := tn) (s := ts) (by with_reducible assumption)).mono ?_; rintro e w1 ⟨rfl, hbw⟩; have hB3 : Below W.heap.size W w1 := ((Below.refl W.heap.size W).alloc (Nat.le_refl _) _).drew.trans (hbw.mono (by simp)); have hsz3 := hB3.size; have hc1w := (hB3.cell (p := ⟨c, 0, none⟩) hcW).trans hc1; have hf1w := (hB3.frozen (p := ⟨c, 0, none⟩) hcW).trans hf1; have hcw1 : c < w1.heap.size := (by omega); have HO3 := Lib.hid (own_below HO1.out hB3); have hS1 := keep_va (by with_reducible assumption) hx hgW hbw; (try dsimp only))
        refine hK.out _ _ ?_ (fun hHd10 => ?_)
        · (try dsimp only); first | ((with_reducible refine keep_vs ?_ c _ _ hcx hcg (.inl rfl)); with_reducible assumption) | ((with_reducible refine keep_v4 ?_ g4 _ _ _ _ _ _ _ _ hb4x hb4g hb4m); with_reducible assumption) | (with_reducible assumption) | ((with_reducible refine keep_al ?_ hx hgW); with_reducible assumption) | ((with_reducible refine keep_an ?_ hx hgW); with_reducible assumption) | (refine ⟨⟨?_, ?_, ?_, ?_⟩, Chg.of_below (Below.refl _ _).drew⟩ <;> assumption)
        clear hK K hHd9
        (try simp only [Act.put]); (try simp only [List.setIfInBounds_toArray]); (try simp only [List.set_cons_succ, List.set_cons_zero])
        refine wpAnyH_ready (rs := [6]) (by kernel_rfl) (by simp) ?_
        refine AllReadyH.cons (o := _) rfl (fun K hK => ?_) ?_
        · (refine step_append_d (by rfl) _ _ _ (by rfl) B 51 j0 _ 4 56 Try.underlying49 hij hy0 hy1 hy2 rfl (by omega) vb k cap (flatV V) (by rfl) HO3.out ⟨w.heap.size + 1, 0, none⟩ 1 1 [.int .i64 0, .string { data := #[] }, .int .i64 0, .slice none 0 0] (by rfl) (by rfl) (fun q x hq => at4b W _ _ _ _ _ _ hz1.symm hbw q x hq) (four_one rfl rfl rfl rfl) (by unfold maxLen; omega) (by omega) (by first | omega | (simp; omega)) ?_; intro g4 cap4 w4 hown4 hgr4 hg4 hlt4 hdr4; have hS4 := keep_vg (by with_reducible assumption) hx hgW hxv hgv hgr4; obtain ⟨⟨u0, e0⟩, f0⟩ := own_get hown4 (i := k * 4) (by omega); obtain ⟨⟨u1, e1⟩, f1⟩ := own_get hown4 (i := k * 4 + 1) (by omega); obtain ⟨⟨u2, e2⟩, f2⟩ := own_get hown4 (i := k * 4 + 2) (by omega); obtain ⟨⟨u3, e3⟩, f3⟩ := own_get hown4 (i := k * 4 + 3) (by omega); have hc4 := (hgr4.cell_far ⟨c, 0, none⟩ (by first | omega | (simp; omega)) (by show some c ≠ some vb; intro e; injection e; omega)).trans hc1w; have hf4 := (hgr4.frozen_far ⟨c, 0, none⟩ (by first | omega | (simp; omega)) (by show some c ≠ some vb; intro e; injection e; omega)).trans hf1w; have hne4 : ¬ g4 = c := (by rcases hg4 with h | h <;> simp [h] <;> omega); have hne5 : ¬ c = g4 := fun h => hne4 h.symm; have hb4x : g4 ≠ w.heap.size := (by rcases hg4 with h | h <;> simp [h] <;> omega); have hb4g : g4 ≠ g := (by rcases hg4 with h | h <;> simp [h] <;> omega); have hb4m : g4 = c ∨ g4 = vb ∨ W.heap.size ≤ g4 := (by rcases hg4 with h | h <;> simp [h] <;> omega))
          refine hK.out _ _ ?_ (fun hHd11 => ?_)
          · (try dsimp only); first | ((with_reducible refine keep_vs ?_ c _ _ hcx hcg (.inl rfl)); with_reducible assumption) | ((with_reducible refine keep_v4 ?_ g4 _ _ _ _ _ _ _ _ hb4x hb4g hb4m); with_reducible assumption) | (with_reducible assumption) | ((with_reducible refine keep_al ?_ hx hgW); with_reducible assumption) | ((with_reducible refine keep_an ?_ hx hgW); with_reducible assumption) | (refine ⟨⟨?_, ?_, ?_, ?_⟩, Chg.of_below (Below.refl _ _).drew⟩ <;> assumption)
          clear hK K hHd10
          (try simp only [Act.put]); (try simp only [List.setIfInBounds_toArray]); (try simp only [List.set_cons_succ, List.set_cons_zero])
          refine wpAnyH_take (i := 7) (v := ?_) rfl (by kernel_rfl) (by kernel_rfl) (by kernel_rfl) (fun _ _ _ h => h) (Or.inl ⟨by rfl, ?_⟩) (by with_reducible assumption) ?_
          rotate_left
          · intro w hSw; (try dsimp only at hSw); go_simp <;> with_reducible rfl
          (try simp only [Act.put]); (try simp only [List.setIfInBounds_toArray]); (try simp only [List.set_cons_succ, List.set_cons_zero])
          refine wpAnyH_ready (rs := [8, 9]) (by kernel_rfl) (by simp) ?_
          refine AllReadyH.cons (o := _) rfl (fun K hK => ?_) ?_
          · go_simp
            refine hK.out _ _ ?_ (fun hHd12 => ?_)
            · (try dsimp only); first | ((with_reducible refine keep_vs ?_ c _ _ hcx hcg (.inl rfl)); with_reducible assumption) | ((with_reducible refine keep_v4 ?_ g4 _ _ _ _ _ _ _ _ hb4x hb4g hb4m); with_reducible assumption) | (with_reducible assumption) | ((with_reducible refine keep_al ?_ hx hgW); with_reducible assumption) | ((with_reducible refine keep_an ?_ hx hgW); with_reducible assumption) | (refine ⟨⟨?_, ?_, ?_, ?_⟩, Chg.of_below (Below.refl _ _).drew⟩ <;> assumption)
            clear hK K hHd11
            (try simp only [Act.put]); (try simp only [List.setIfInBounds_toArray]); (try simp only [List.set_cons_succ, List.set_cons_zero])
            refine wpAnyH_ready (rs := [9]) (by kernel_rfl) (by simp) ?_
            refine AllReadyH.cons (o := _) rfl (fun K hK => ?_) ?_
            · go_simp
              refine hK.out _ _ ?_ (fun hHd13 => ?_)
              · (try dsimp only); first | ((with_reducible refine keep_vs ?_ c _ _ hcx hcg (.inl rfl)); with_reducible assumption) | ((with_reducible refine keep_v4 ?_ g4 _ _ _ _ _ _ _ _ hb4x hb4g hb4m); with_reducible assumption) | (with_reducible assumption) | ((with_reducible refine keep_al ?_ hx hgW); with_reducible assumption) | ((with_reducible refine keep_an ?_ hx hgW); with_reducible assumption) | (refine ⟨⟨?_, ?_, ?_, ?_⟩, Chg.of_below (Below.refl _ _).drew⟩ <;> assumption)
              clear hK K hHd12
              (try simp only [Act.put]); (try simp only [List.setIfInBounds_toArray]); (try simp only [List.set_cons_succ, List.set_cons_zero])
              refine wpAnyH_done (by kernel_rfl) ?_ _
              refine NoPanic.normal ?_
              have hCH : Chg [c, vb] W _ := (by with_reducible assumption : _ ∧ Chg [c, vb] W _).2
              go_wp2
              go_ret
              refine .inr ⟨rfl, rfl, g4, cap4, (Chg.of_below hb1).trans hCH, ?_, ?_⟩
              · rcases hg4 with h | h
                · exact .inl h
                · right; rw [h]; first | omega | (simp; omega)
              · first | (with_reducible exact fin_a HK.out hown4 hne4 hc4 hf4) | (with_reducible exact fin_b HK.out hown4 hne4 hc4 hf4)
            exact AllReadyH.nil
          refine AllReadyH.cons (o := _) rfl (fun K hK => ?_) ?_
          · go_simp
            refine hK.out _ _ ?_ (fun hHd14 => ?_)
            · (try dsimp only); first | ((with_reducible refine keep_vs ?_ c _ _ hcx hcg (.inl rfl)); with_reducible assumption) | ((with_reducible refine keep_v4 ?_ g4 _ _ _ _ _ _ _ _ hb4x hb4g hb4m); with_reducible assumption) | (with_reducible assumption) | ((with_reducible refine keep_al ?_ hx hgW); with_reducible assumption) | ((with_reducible refine keep_an ?_ hx hgW); with_reducible assumption) | (refine ⟨⟨?_, ?_, ?_, ?_⟩, Chg.of_below (Below.refl _ _).drew⟩ <;> assumption)
            clear hK K hHd11
            (try simp only [Act.put]); (try simp only [List.setIfInBounds_toArray]); (try simp only [List.set_cons_succ, List.set_cons_zero])
            refine wpAnyH_ready (rs := [8]) (by kernel_rfl) (by simp) ?_
            refine AllReadyH.cons (o := _) rfl (fun K hK => ?_) ?_
            · go_simp
              refine hK.out _ _ ?_ (fun hHd15 => ?_)
              · (try dsimp only); first | ((with_reducible refine keep_vs ?_ c _ _ hcx hcg (.inl rfl)); with_reducible assumption) | ((with_reducible refine keep_v4 ?_ g4 _ _ _ _ _ _ _ _ hb4x hb4g hb4m); with_reducible assumption) | (with_reducible assumption) | ((with_reducible refine keep_al ?_ hx hgW); with_reducible assumption) | ((with_reducible refine keep_an ?_ hx hgW); with_reducible assumption) | (refine ⟨⟨?_, ?_, ?_, ?_⟩, Chg.of_below (Below.refl _ _).drew⟩ <;> assumption)
              clear hK K hHd14
              (try simp only [Act.put]); (try simp only [List.setIfInBounds_toArray]); (try simp only [List.set_cons_succ, List.set_cons_zero])
              refine wpAnyH_done (by kernel_rfl) ?_ _
              refine NoPanic.normal ?_
              have hCH : Chg [c, vb] W _ := (by with_reducible assumption : _ ∧ Chg [c, vb] W _).2
              go_wp2
              go_ret
              refine .inr ⟨rfl, rfl, g4, cap4, (Chg.of_below hb1).trans hCH, ?_, ?_⟩
              · rcases hg4 with h | h
                · exact .inl h
                · right; rw [h]; first | omega | (simp; omega)
              · first | (with_reducible exact fin_a HK.out hown4 hne4 hc4 hf4) | (with_reducible exact fin_b HK.out hown4 hne4 hc4 hf4)
            exact AllReadyH.nil
          exact AllReadyH.nil
        exact AllReadyH.nil
      exact AllReadyH.nil
    exact AllReadyH.nil
  refine AllReadyH.cons (o := _) rfl (fun K hK => ?_) ?_
  · (go_simp; refine (without_sv (W := W) (x := w.heap.size) (g := g) (o := o) (c := c) (vb := vb) (l := tn) (s := ts) (by with_reducible assumption)).mono ?_; rintro e w1 ⟨rfl, hbw⟩; have hB3 : Below W.heap.size W w1 := (Below.refl W.heap.size W).drew.trans (hbw.mono (Nat.le_refl _)); have hsz3 := hB3.size; have hc1w := (hB3.cell (p := ⟨c, 0, none⟩) hcW).trans hc1; have hf1w := (hB3.frozen (p := ⟨c, 0, none⟩) hcW).trans hf1; have hcw1 : c < w1.heap.size := (by omega); have HO3 := Lib.hid (own_below HO1.out hB3); have hS1 := keep_va (by with_reducible assumption) hx hgW hbw; (try dsimp only))
    refine hK.out _ _ ?_ (fun hHd16 => ?_)
    · (try dsimp only); first | ((with_reducible refine keep_vs ?_ c _ _ hcx hcg (.inl rfl)); with_reducible assumption) | ((with_reducible refine keep_v4 ?_ g4 _ _ _ _ _ _ _ _ hb4x hb4g hb4m); with_reducible assumption) | (with_reducible assumption) | ((with_reducible refine keep_al ?_ hx hgW); with_reducible assumption) | ((with_reducible refine keep_an ?_ hx hgW); with_reducible assumption) | (refine ⟨⟨?_, ?_, ?_, ?_⟩, Chg.of_below (Below.refl _ _).drew⟩ <;> assumption)
    clear hK K hHd0
    (try simp only [Act.put]); (try simp only [List.setIfInBounds_toArray]); (try simp only [List.set_cons_succ, List.set_cons_zero])
    refine wpAnyH_ready (rs := [0, 5]) (by kernel_rfl) (by simp) ?_
    refine AllReadyH.cons (o := _) rfl (fun K hK => ?_) ?_
    · go_simp
      refine hK.out _ _ ?_ (fun hHd17 => ?_)
      · (try dsimp only); first | ((with_reducible refine keep_vs ?_ c _ _ hcx hcg (.inl rfl)); with_reducible assumption) | ((with_reducible refine keep_v4 ?_ g4 _ _ _ _ _ _ _ _ hb4x hb4g hb4m); with_reducible assumption) | (with_reducible assumption) | ((with_reducible refine keep_al ?_ hx hgW); with_reducible assumption) | ((with_reducible refine keep_an ?_ hx hgW); with_reducible assumption) | (refine ⟨⟨?_, ?_, ?_, ?_⟩, Chg.of_below (Below.refl _ _).drew⟩ <;> assumption)
      clear hK K hHd16
      (try simp only [Act.put]); (try simp only [List.setIfInBounds_toArray]); (try simp only [List.set_cons_succ, List.set_cons_zero])
      refine wpAnyH_take (i := 4) (v := ?_) rfl (by kernel_rfl) (by kernel_rfl) (by kernel_rfl) (fun _ _ _ h => h) (Or.inl ⟨by rfl, ?_⟩) (by with_reducible assumption) ?_
      rotate_left
      · intro w hSw; (try dsimp only at hSw); go_simp <;> with_reducible rfl
      (try simp only [Act.put]); (try simp only [List.setIfInBounds_toArray]); (try simp only [List.set_cons_succ, List.set_cons_zero])
      refine wpAnyH_ready (rs := [5]) (by kernel_rfl) (by simp) ?_
      refine AllReadyH.cons (o := _) rfl (fun K hK => ?_) ?_
      · go_simp
        refine hK.out _ _ ?_ (fun hHd18 => ?_)
        · (try dsimp only); first | ((with_reducible refine keep_vs ?_ c _ _ hcx hcg (.inl rfl)); with_reducible assumption) | ((with_reducible refine keep_v4 ?_ g4 _ _ _ _ _ _ _ _ hb4x hb4g hb4m); with_reducible assumption) | (with_reducible assumption) | ((with_reducible refine keep_al ?_ hx hgW); with_reducible assumption) | ((with_reducible refine keep_an ?_ hx hgW); with_reducible assumption) | (refine ⟨⟨?_, ?_, ?_, ?_⟩, Chg.of_below (Below.refl _ _).drew⟩ <;> assumption)
        clear hK K hHd17
        (try simp only [Act.put]); (try simp only [List.setIfInBounds_toArray]); (try simp only [List.set_cons_succ, List.set_cons_zero])
        refine wpAnyH_ready (rs := [6]) (by kernel_rfl) (by simp) ?_
        refine AllReadyH.cons (o := _) rfl (fun K hK => ?_) ?_
        · (refine step_append_d (by rfl) _ _ _ (by rfl) B 51 j0 _ 4 56 Try.underlying49 hij hy0 hy1 hy2 rfl (by omega) vb k cap (flatV V) (by rfl) (own_below HO3.out ((Below.refl _ _).alloc (Nat.le_refl _) _)) ⟨w1.heap.size, 0, none⟩ 1 1 [.int .i64 0, .string { data := #[] }, .int .i64 0, .slice none 0 0] (by rfl) (by rfl) (fun q x hq => at4 w1 _ _ _ _ _ _ rfl q x hq) (four_one rfl rfl rfl rfl) (by unfold maxLen; omega) (by omega) (by first | omega | (simp; omega)) ?_; intro g4 cap4 w4 hown4 hgr4 hg4 hlt4 hdr4; have hS4 := keep_vg (by with_reducible assumption) hx hgW hxv hgv hgr4; obtain ⟨⟨u0, e0⟩, f0⟩ := own_get hown4 (i := k * 4) (by omega); obtain ⟨⟨u1, e1⟩, f1⟩ := own_get hown4 (i := k * 4 + 1) (by omega); obtain ⟨⟨u2, e2⟩, f2⟩ := own_get hown4 (i := k * 4 + 2) (by omega); obtain ⟨⟨u3, e3⟩, f3⟩ := own_get hown4 (i := k * 4 + 3) (by omega); have hc4 := (hgr4.cell_far ⟨c, 0, none⟩ (by first | omega | (simp; omega)) (by show some c ≠ some vb; intro e; injection e; omega)).trans ((((Below.refl w1.heap.size w1).alloc (Nat.le_refl _) _).cell (p := ⟨c, 0, none⟩) hcw1).trans hc1w); have hf4 := (hgr4.frozen_far ⟨c, 0, none⟩ (by first | omega | (simp; omega)) (by show some c ≠ some vb; intro e; injection e; omega)).trans ((((Below.refl w1.heap.size w1).alloc (Nat.le_refl _) _).frozen (p := ⟨c, 0, none⟩) hcw1).trans hf1w); have hne4 : ¬ g4 = c := (by rcases hg4 with h | h <;> simp [h] <;> omega); have hne5 : ¬ c = g4 := fun h => hne4 h.symm; have hb4x : g4 ≠ w.heap.size := (by rcases hg4 with h | h <;> simp [h] <;> omega); have hb4g : g4 ≠ g := (by rcases hg4 with h | h <;> simp [h] <;> omega); have hb4m : g4 = c ∨ g4 = vb ∨ W.heap.size ≤ g4 := (by rcases hg4 with h | h <;> simp [h] <;> omega))
          refine hK.out _ _ ?_ (fun hHd19 => ?_)
          · (try dsimp only); first | ((with_reducible refine keep_vs ?_ c _ _ hcx hcg (.inl rfl)); with_reducible assumption) | ((with_reducible refine keep_v4 ?_ g4 _ _ _ _ _ _ _ _ hb4x hb4g hb4m); with_reducible assumption) | (with_reducible assumption) | ((with_reducible refine keep_al ?_ hx hgW); with_reducible assumption) | ((with_reducible refine keep_an ?_ hx hgW); with_reducible assumption) | (refine ⟨⟨?_, ?_, ?_, ?_⟩, Chg.of_below (Below.refl _ _).drew⟩ <;> assumption)
          clear hK K hHd18
          (try simp only [Act.put]); (try simp only [List.setIfInBounds_toArray]); (try simp only [List.set_cons_succ, List.set_cons_zero])
          refine wpAnyH_take (i := 7) (v := ?_) rfl (by kernel_rfl) (by kernel_rfl) (by kernel_rfl) (fun _ _ _ h => h) (Or.inl ⟨by rfl, ?_⟩) (by with_reducible assumption) ?_
          rotate_left
          · intro w hSw; (try dsimp only at hSw); go_simp <;> with_reducible rfl
          (try simp only [Act.put]); (try simp only [List.setIfInBounds_toArray]); (try simp only [List.set_cons_succ, List.set_cons_zero])
          refine wpAnyH_ready (rs := [8, 9]) (by kernel_rfl) (by simp) ?_
          refine AllReadyH.cons (o := _) rfl (fun K hK => ?_) ?_
          · go_simp
            refine hK.out _ _ ?_ (fun hHd20 => ?_)
            · (try dsimp only); first | ((with_reducible refine keep_vs ?_ c _ _ hcx hcg (.inl rfl)); with_reducible assumption) | ((with_reducible refine keep_v4 ?_ g4 _ _ _ _ _ _ _ _ hb4x hb4g hb4m); with_reducible assumption) | (with_reducible assumption) | ((with_reducible refine keep_al ?_ hx hgW); with_reducible assumption) | ((with_reducible refine keep_an ?_ hx hgW); with_reducible assumption) | (refine ⟨⟨?_, ?_, ?_, ?_⟩, Chg.of_below (Below.refl _ _).drew⟩ <;> assumption)
            clear hK K hHd19
            (try simp only [Act.put]); (try simp only [List.setIfInBounds_toArray]); (try simp only [List.set_cons_succ, List.set_cons_zero])
            refine wpAnyH_ready (rs := [9]) (by kernel_rfl) (by simp) ?_
            refine AllReadyH.cons (o := _) rfl (fun K hK => ?_) ?_
            · go_simp
              refine hK.out _ _ ?_ (fun hHd21 => ?_)
              · (try dsimp only); first | ((with_reducible refine keep_vs ?_ c _ _ hcx hcg (.inl rfl)); with_reducible assumption) | ((with_reducible refine keep_v4 ?_ g4 _ _ _ _ _ _ _ _ hb4x hb4g hb4m); with_reducible assumption) | (with_reducible assumption) | ((with_reducible refine keep_al ?_ hx hgW); with_reducible assumption) | ((with_reducible refine keep_an ?_ hx hgW); with_reducible assumption) | (refine ⟨⟨?_, ?_, ?_, ?_⟩, Chg.of_below (Below.refl _ _).drew⟩ <;> assumption)
              clear hK K hHd20
              (try simp only [Act.put]); (try simp only [List.setIfInBounds_toArray]); (try simp only [List.set_cons_succ, List.set_cons_zero])
              refine wpAnyH_done (by kernel_rfl) ?_ _
              refine NoPanic.normal ?_
              have hCH : Chg [c, vb] W _ := (by with_reducible assumption : _ ∧ Chg [c, vb] W _).2
              go_wp2
              go_ret
              refine .inr ⟨rfl, rfl, g4, cap4, (Chg.of_below hb1).trans hCH, ?_, ?_⟩
              · rcases hg4 with h | h
                · exact .inl h
                · right; rw [h]; first | omega | (simp; omega)
              · first | (with_reducible exact fin_a HK.out hown4 hne4 hc4 hf4) | (with_reducible exact fin_b HK.out hown4 hne4 hc4 hf4)
            exact AllReadyH.nil
          refine AllReadyH.cons (o := _) rfl (fun K hK => ?_) ?_
          · go_simp
            refine hK.out _ _ ?_ (fun hHd22 => ?_)
            · (try dsimp only); first | ((with_reducible refine keep_vs ?_ c _ _ hcx hcg (.inl rfl)); with_reducible assumption) | ((with_reducible refine keep_v4 ?_ g4 _ _ _ _ _ _ _ _ hb4x hb4g hb4m); with_reducible assumption) | (with_reducible assumption) | ((with_reducible refine keep_al ?_ hx hgW); with_reducible assumption) | ((with_reducible refine keep_an ?_ hx hgW); with_reducible assumption) | (refine ⟨⟨?_, ?_, ?_, ?_⟩, Chg.of_below (Below.refl _ _).drew⟩ <;> assumption)
            clear hK K hHd19
            (try simp only [Act.put]); (try simp only [List.setIfInBounds_toArray]); (try simp only [List.set_cons_succ, List.set_cons_zero])
            refine wpAnyH_ready (rs := [8]) (by kernel_rfl) (by simp) ?_
            refine AllReadyH.cons (o := _) rfl (fun K hK => ?_) ?_
            · go_simp
              refine hK.out _ _ ?_ (fun hHd23 => ?_)
              · (try dsimp only); first | ((with_reducible refine keep_vs ?_ c _ _ hcx hcg (.inl rfl)); with_reducible assumption) | ((with_reducible refine keep_v4 ?_ g4 _ _ _ _ _ _ _ _ hb4x hb4g hb4m); with_reducible assumption) | (with_reducible assumption) | ((with_reducible refine keep_al ?_ hx hgW); with_reducible assumption) | ((with_reducible refine keep_an ?_ hx hgW); with_reducible assumption) | (refine ⟨⟨?_, ?_, ?_, ?_⟩, Chg.of_below (Below.refl _ _).drew⟩ <;> assumption)
              clear hK K hHd22
              (try simp only [Act.put]); (try simp only [List.setIfInBounds_toArray]); (try simp only [List.set_cons_succ, List.set_cons_zero])
              refine wpAnyH_done (by kernel_rfl) ?_ _
              refine NoPanic.normal ?_
              have hCH : Chg [c, vb] W _ := (by with_reducible assumption : _ ∧ Chg [c, vb] W _).2
              go_wp2
              go_ret
              refine .inr ⟨rfl, rfl, g4, cap4, (Chg.of_below hb1).trans hCH, ?_, ?_⟩
              · rcases hg4 with h | h
                · exact .inl h
                · right; rw [h]; first | omega | (simp; omega)
              · first | (with_reducible exact fin_a HK.out hown4 hne4 hc4 hf4) | (with_reducible exact fin_b HK.out hown4 hne4 hc4 hf4)
            exact AllReadyH.nil
          exact AllReadyH.nil
        exact AllReadyH.nil
      exact AllReadyH.nil
    refine AllReadyH.cons (o := _) rfl (fun K hK => ?_) ?_
    · go_simp
      refine hK.out _ _ ?_ (fun hHd24 => ?_)
      · (try dsimp only); first | ((with_reducible refine keep_vs ?_ c _ _ hcx hcg (.inl rfl)); with_reducible assumption) | ((with_reducible refine keep_v4 ?_ g4 _ _ _ _ _ _ _ _ hb4x hb4g hb4m); with_reducible assumption) | (with_reducible assumption) | ((with_reducible refine keep_al ?_ hx hgW); with_reducible assumption) | ((with_reducible refine keep_an ?_ hx hgW); with_reducible assumption) | (refine ⟨⟨?_, ?_, ?_, ?_⟩, Chg.of_below (Below.refl _ _).drew⟩ <;> assumption)
      clear hK K hHd16
      (try simp only [Act.put]); (try simp only [List.setIfInBounds_toArray]); (try simp only [List.set_cons_succ, List.set_cons_zero])
      refine wpAnyH_ready (rs := [0]) (by kernel_rfl) (by simp) ?_
      refine AllReadyH.cons (o := _) rfl (fun K hK => ?_) ?_
      · go_simp
        refine hK.out _ _ ?_ (fun hHd25 => ?_)
        · (try dsimp only); first | ((with_reducible refine keep_vs ?_ c _ _ hcx hcg (.inl rfl)); with_reducible assumption) | ((with_reducible refine keep_v4 ?_ g4 _ _ _ _ _ _ _ _ hb4x hb4g hb4m); with_reducible assumption) | (with_reducible assumption) | ((with_reducible refine keep_al ?_ hx hgW); with_reducible assumption) | ((with_reducible refine keep_an ?_ hx hgW); with_reducible assumption) | (refine ⟨⟨?_, ?_, ?_, ?_⟩, Chg.of_below (Below.refl _ _).drew⟩ <;> assumption)
        clear hK K hHd24
        (try simp only [Act.put]); (try simp only [List.setIfInBounds_toArray]); (try simp only [List.set_cons_succ, List.set_cons_zero])
        refine wpAnyH_take (i := 4) (v := ?_) rfl (by kernel_rfl) (by kernel_rfl) (by kernel_rfl) (fun _ _ _ h => h) (Or.inl ⟨by rfl, ?_⟩) (by with_reducible assumption) ?_
        rotate_left
        · intro w hSw; (try dsimp only at hSw); go_simp <;> with_reducible rfl
        (try simp only [Act.put]); (try simp only [List.setIfInBounds_toArray]); (try simp only [List.set_cons_succ, List.set_cons_zero])
        refine wpAnyH_ready (rs := [6]) (by kernel_rfl) (by simp) ?_
        refine AllReadyH.cons (o := _) rfl (fun K hK => ?_) ?_
        · (refine step_append_d (by rfl) _ _ _ (by rfl) B 51 j0 _ 4 56 Try.underlying49 hij hy0 hy1 hy2 rfl (by omega) vb k cap (flatV V) (by rfl) (own_below HO3.out ((Below.refl _ _).alloc (Nat.le_refl _) _)) ⟨w1.heap.size, 0, none⟩ 1 1 [.int .i64 0, .string { data := #[] }, .int .i64 0, .slice none 0 0] (by rfl) (by rfl) (fun q x hq => at4 w1 _ _ _ _ _ _ rfl q x hq) (four_one rfl rfl rfl rfl) (by unfold maxLen; omega) (by omega) (by first | omega | (simp; omega)) ?_; intro g4 cap4 w4 hown4 hgr4 hg4 hlt4 hdr4; have hS4 := keep_vg (by with_reducible assumption) hx hgW hxv hgv hgr4; obtain ⟨⟨u0, e0⟩, f0⟩ := own_get hown4 (i := k * 4) (by omega); obtain ⟨⟨u1, e1⟩, f1⟩ := own_get hown4 (i := k * 4 + 1) (by omega); obtain ⟨⟨u2, e2⟩, f2⟩ := own_get hown4 (i := k * 4 + 2) (by omega); obtain ⟨⟨u3, e3⟩, f3⟩ := own_get hown4 (i := k * 4 + 3) (by omega); have hc4 := (hgr4.cell_far ⟨c, 0, none⟩ (by first | omega | (simp; omega)) (by show some c ≠ some vb; intro e; injection e; omega)).trans ((((Below.refl w1.heap.size w1).alloc (Nat.le_refl _) _).cell (p := ⟨c, 0, none⟩) hcw1).trans hc1w); have hf4 := (hgr4.frozen_far ⟨c, 0, none⟩ (by first | omega | (simp; omega)) (by show some c ≠ some vb; intro e; injection e; omega)).trans ((((Below.refl w1.heap.size w1).alloc (Nat.le_refl _) _).frozen (p := ⟨c, 0, none⟩) hcw1).trans hf1w); have hne4 : ¬ g4 = c := (by rcases hg4 with h | h <;> simp [h] <;> omega); have hne5 : ¬ c = g4 := fun h => hne4 h.symm; have hb4x : g4 ≠ w.heap.size := (by rcases hg4 with h | h <;> simp [h] <;> omega); have hb4g : g4 ≠ g := (by rcases hg4 with h | h <;> simp [h] <;> omega); have hb4m : g4 = c ∨ g4 = vb ∨ W.heap.size ≤ g4 := (by rcases hg4 with h | h <;> simp [h] <;> omega))
          refine hK.out _ _ ?_ (fun hHd26 => ?_)
          · (try dsimp only); first | ((with_reducible refine keep_vs ?_ c _ _ hcx hcg (.inl rfl)); with_reducible assumption) | ((with_reducible refine keep_v4 ?_ g4 _ _ _ _ _ _ _ _ hb4x hb4g hb4m); with_reducible assumption) | (with_reducible assumption) | ((with_reducible refine keep_al ?_ hx hgW); with_reducible assumption) | ((with_reducible refine keep_an ?_ hx hgW); with_reducible assumption) | (refine ⟨⟨?_, ?_, ?_, ?_⟩, Chg.of_below (Below.refl _ _).drew⟩ <;> assumption)
          clear hK K hHd25
          (try simp only [Act.put]); (try simp only [List.setIfInBounds_toArray]); (try simp only [List.set_cons_succ, List.set_cons_zero])
          refine wpAnyH_take (i := 7) (v := ?_) rfl (by kernel_rfl) (by kernel_rfl) (by kernel_rfl) (fun _ _ _ h => h) (Or.inl ⟨by rfl, ?_⟩) (by with_reducible assumption) ?_
          rotate_left
          · intro w hSw; (try dsimp only at hSw); go_simp <;> with_reducible rfl
          (try simp only [Act.put]); (try simp only [List.setIfInBounds_toArray]); (try simp only [List.set_cons_succ, List.set_cons_zero])
          refine wpAnyH_ready (rs := [8, 9]) (by kernel_rfl) (by simp) ?_
          refine AllReadyH.cons (o := _) rfl (fun K hK => ?_) ?_
          · go_simp
            refine hK.out _ _ ?_ (fun hHd27 => ?_)
            · (try dsimp only); first | ((with_reducible refine keep_vs ?_ c _ _ hcx hcg (.inl rfl)); with_reducible assumption) | ((with_reducible refine keep_v4 ?_ g4 _ _ _ _ _ _ _ _ hb4x hb4g hb4m); with_reducible assumption) | (with_reducible assumption) | ((with_reducible refine keep_al ?_ hx hgW); with_reducible assumption) | ((with_reducible refine keep_an ?_ hx hgW); with_reducible assumption) | (refine ⟨⟨?_, ?_, ?_, ?_⟩, Chg.of_below (Below.refl _ _).drew⟩ <;> assumption)
            clear hK K hHd26
            (try simp only [Act.put]); (try simp only [List.setIfInBounds_toArray]); (try simp only [List.set_cons_succ, List.set_cons_zero])
            refine wpAnyH_ready (rs := [9]) (by kernel_rfl) (by simp) ?_
            refine AllReadyH.cons (o := _) rfl (fun K hK => ?_) ?_
            · go_simp
              refine hK.out _ _ ?_ (fun hHd28 => ?_)
              · (try dsimp only); first | ((with_reducible refine keep_vs ?_ c _ _ hcx hcg (.inl rfl)); with_reducible assumption) | ((with_reducible refine keep_v4 ?_ g4 _ _ _ _ _ _ _ _ hb4x hb4g hb4m); with_reducible assumption) | (with_reducible assumption) | ((with_reducible refine keep_al ?_ hx hgW); with_reducible assumption) | ((with_reducible refine keep_an ?_ hx hgW); with_reducible assumption) | (refine ⟨⟨?_, ?_, ?_, ?_⟩, Chg.of_below (Below.refl _ _).drew⟩ <;> assumption)
              clear hK K hHd27
              (try simp only [Act.put]); (try simp only [List.setIfInBounds_toArray]); (try simp only [List.set_cons_succ, List.set_cons_zero])
              refine wpAnyH_done (by kernel_rfl) ?_ _
              refine NoPanic.normal ?_
              have hCH : Chg [c, vb] W _ := (by with_reducible assumption : _ ∧ Chg [c, vb] W _).2
              go_wp2
              go_ret
              refine .inr ⟨rfl, rfl, g4, cap4, (Chg.of_below hb1).trans hCH, ?_, ?_⟩
              · rcases hg4 with h | h
                · exact .inl h
                · right; rw [h]; first | omega | (simp; omega)
              · first | (with_reducible exact fin_a HK.out hown4 hne4 hc4 hf4) | (with_reducible exact fin_b HK.out hown4 hne4 hc4 hf4)
            exact AllReadyH.nil
          refine AllReadyH.cons (o := _) rfl (fun K hK => ?_) ?_
          · go_simp
            refine hK.out _ _ ?_ (fun hHd29 => ?_)
            · (try dsimp only); first | ((with_reducible refine keep_vs ?_ c _ _ hcx hcg (.inl rfl)); with_reducible assumption) | ((with_reducible refine keep_v4 ?_ g4 _ _ _ _ _ _ _ _ hb4x hb4g hb4m); with_reducible assumption) | (with_reducible assumption) | ((with_reducible refine keep_al ?_ hx hgW); with_reducible assumption) | ((with_reducible refine keep_an ?_ hx hgW); with_reducible assumption) | (refine ⟨⟨?_, ?_, ?_, ?_⟩, Chg.of_below (Below.refl _ _).drew⟩ <;> assumption)
            clear hK K hHd26
            (try simp only [Act.put]); (try simp only [List.setIfInBounds_toArray]); (try simp only [List.set_cons_succ, List.set_cons_zero])
            refine wpAnyH_ready (rs := [8]) (by kernel_rfl) (by simp) ?_
            refine AllReadyH.cons (o := _) rfl (fun K hK => ?_) ?_
            · go_simp
              refine hK.out _ _ ?_ (fun hHd30 => ?_)
              · (try dsimp only); first | ((with_reducible refine keep_vs ?_ c _ _ hcx hcg (.inl rfl)); with_reducible assumption) | ((with_reducible refine keep_v4 ?_ g4 _ _ _ _ _ _ _ _ hb4x hb4g hb4m); with_reducible assumption) | (with_reducible assumption) | ((with_reducible refine keep_al ?_ hx hgW); with_reducible assumption) | ((with_reducible refine keep_an ?_ hx hgW); with_reducible assumption) | (refine ⟨⟨?_, ?_, ?_, ?_⟩, Chg.of_below (Below.refl _ _).drew⟩ <;> assumption)
              clear hK K hHd29
              (try simp only [Act.put]); (try simp only [List.setIfInBounds_toArray]); (try simp only [List.set_cons_succ, List.set_cons_zero])
              refine wpAnyH_done (by kernel_rfl) ?_ _
              refine NoPanic.normal ?_
              have hCH : Chg [c, vb] W _ := (by with_reducible assumption : _ ∧ Chg [c, vb] W _).2
              go_wp2
              go_ret
              refine .inr ⟨rfl, rfl, g4, cap4, (Chg.of_below hb1).trans hCH, ?_, ?_⟩
              · rcases hg4 with h | h
                · exact .inl h
                · right; rw [h]; first | omega | (simp; omega)
              · first | (with_reducible exact fin_a HK.out hown4 hne4 hc4 hf4) | (with_reducible exact fin_b HK.out hown4 hne4 hc4 hf4)
            exact AllReadyH.nil
          exact AllReadyH.nil
        exact AllReadyH.nil
      exact AllReadyH.nil
    exact AllReadyH.nil
  refine AllReadyH.cons (o := _) rfl (fun K hK => ?_) ?_
  · go_simp
    refine hK.out _ _ ?_ (fun hHd31 => ?_)
    · (try dsimp only); first | ((with_reducible refine keep_vs ?_ c _ _ hcx hcg (.inl rfl)); with_reducible assumption) | ((with_reducible refine keep_v4 ?_ g4 _ _ _ _ _ _ _ _ hb4x hb4g hb4m); with_reducible assumption) | (with_reducible assumption) | ((with_reducible refine keep_al ?_ hx hgW); with_reducible assumption) | ((with_reducible refine keep_an ?_ hx hgW); with_reducible assumption) | (refine ⟨⟨?_, ?_, ?_, ?_⟩, Chg.of_below (Below.refl _ _).drew⟩ <;> assumption)
    clear hK K hHd0
    (try simp only [Act.put]); (try simp only [List.setIfInBounds_toArray]); (try simp only [List.set_cons_succ, List.set_cons_zero])
    refine wpAnyH_ready (rs := [0, 3]) (by kernel_rfl) (by simp) ?_
    refine AllReadyH.cons (o := _) rfl (fun K hK => ?_) ?_
    · go_simp
      refine hK.out _ _ ?_ (fun hHd32 => ?_)
      · (try dsimp only); first | ((with_reducible refine keep_vs ?_ c _ _ hcx hcg (.inl rfl)); with_reducible assumption) | ((with_reducible refine keep_v4 ?_ g4 _ _ _ _ _ _ _ _ hb4x hb4g hb4m); with_reducible assumption) | (with_reducible assumption) | ((with_reducible refine keep_al ?_ hx hgW); with_reducible assumption) | ((with_reducible refine keep_an ?_ hx hgW); with_reducible assumption) | (refine ⟨⟨?_, ?_, ?_, ?_⟩, Chg.of_below (Below.refl _ _).drew⟩ <;> assumption)
      clear hK K hHd31
      (try simp only [Act.put]); (try simp only [List.setIfInBounds_toArray]); (try simp only [List.set_cons_succ, List.set_cons_zero])
      refine wpAnyH_take (i := 4) (v := ?_) rfl (by kernel_rfl) (by kernel_rfl) (by kernel_rfl) (fun _ _ _ h => h) (Or.inl ⟨by rfl, ?_⟩) (by with_reducible assumption) ?_
      rotate_left
      · intro w hSw; (try dsimp only at hSw); go_simp <;> with_reducible rfl
      (try simp only [Act.put]); (try simp only [List.setIfInBounds_toArray]); (try simp only [List.set_cons_succ, List.set_cons_zero])
      refine wpAnyH_ready (rs := [3]) (by kernel_rfl) (by simp) ?_
      refine AllReadyH.cons (o := _) rfl (fun K hK => ?_) ?_
      · (go_simp; refine (without_sv (W := W) (x := w.heap.size) (g := g) (o := o) (c := c) (vb := vb) (l := tn) (s := ts) (by with_reducible assumption)).mono ?_; rintro e w1 ⟨rfl, hbw⟩; have hB3 : Below W.heap.size W w1 := ((Below.refl W.heap.size W).alloc (Nat.le_refl _) _).drew.trans (hbw.mono (by simp)); have hsz3 := hB3.size; have hc1w := (hB3.cell (p := ⟨c, 0, none⟩) hcW).trans hc1; have hf1w := (hB3.frozen (p := ⟨c, 0, none⟩) hcW).trans hf1; have hcw1 : c < w1.heap.size := (by omega); have HO3 := Lib.hid (own_below HO1.out hB3); have hS1 := keep_va (by with_reducible assumption) hx hgW hbw; (try dsimp only))
        refine hK.out _ _ ?_ (fun hHd33 => ?_)
        · (try dsimp only); first | ((with_reducible refine keep_vs ?_ c _ _ hcx hcg (.inl rfl)); with_reducible assumption) | ((with_reducible refine keep_v4 ?_ g4 _ _ _ _ _ _ _ _ hb4x hb4g hb4m); with_reducible assumption) | (with_reducible assumption) | ((with_reducible refine keep_al ?_ hx hgW); with_reducible assumption) | ((with_reducible refine keep_an ?_ hx hgW); with_reducible assumption) | (refine ⟨⟨?_, ?_, ?_, ?_⟩, Chg.of_below (Below.refl _ _).drew⟩ <;> assumption)
        clear hK K hHd32
        (try simp only [Act.put]); (try simp only [List.setIfInBounds_toArray]); (try simp only [List.set_cons_succ, List.set_cons_zero])
        refine wpAnyH_ready (rs := [6]) (by kernel_rfl) (by simp) ?_
        refine AllReadyH.cons (o := _) rfl (fun K hK => ?_) ?_
        · (refine step_append_d (by rfl) _ _ _ (by rfl) B 51 j0 _ 4 56 Try.underlying49 hij hy0 hy1 hy2 rfl (by omega) vb k cap (flatV V) (by rfl) HO3.out ⟨w.heap.size + 1, 0, none⟩ 1 1 [.int .i64 0, .string { data := #[] }, .int .i64 0, .slice none 0 0] (by rfl) (by rfl) (fun q x hq => at4b W _ _ _ _ _ _ hz1.symm hbw q x hq) (four_one rfl rfl rfl rfl) (by unfold maxLen; omega) (by omega) (by first | omega | (simp; omega)) ?_; intro g4 cap4 w4 hown4 hgr4 hg4 hlt4 hdr4; have hS4 := keep_vg (by with_reducible assumption) hx hgW hxv hgv hgr4; obtain ⟨⟨u0, e0⟩, f0⟩ := own_get hown4 (i := k * 4) (by omega); obtain ⟨⟨u1, e1⟩, f1⟩ := own_get hown4 (i := k * 4 + 1) (by omega); obtain ⟨⟨u2, e2⟩, f2⟩ := own_get hown4 (i := k * 4 + 2) (by omega); obtain ⟨⟨u3, e3⟩, f3⟩ := own_get hown4 (i := k * 4 + 3) (by omega); have hc4 := (hgr4.cell_far ⟨c, 0, none⟩ (by first | omega | (simp; omega)) (by show some c ≠ some vb; intro e; injection e; omega)).trans hc1w; have hf4 := (hgr4.frozen_far ⟨c, 0, none⟩ (by first | omega | (simp; omega)) (by show some c ≠ some vb; intro e; injection e; omega)).trans hf1w; have hne4 : ¬ g4 = c := (by rcases hg4 with h | h <;> simp [h] <;> omega); have hne5 : ¬ c = g4 := fun h => hne4 h.symm; have hb4x : g4 ≠ w.heap.size := (by rcases hg4 with h | h <;> simp [h] <;> omega); have hb4g : g4 ≠ g := (by rcases hg4 with h | h <;> simp [h] <;> omega); have hb4m : g4 = c ∨ g4 = vb ∨ W.heap.size ≤ g4 := (by rcases hg4 with h | h <;> simp [h] <;> omega))
          refine hK.out _ _ ?_ (fun hHd34 => ?_)
          · (try dsimp only); first | ((with_reducible refine keep_vs ?_ c _ _ hcx hcg (.inl rfl)); with_reducible assumption) | ((with_reducible refine keep_v4 ?_ g4 _ _ _ _ _ _ _ _ hb4x hb4g hb4m); with_reducible assumption) | (with_reducible assumption) | ((with_reducible refine keep_al ?_ hx hgW); with_reducible assumption) | ((with_reducible refine keep_an ?_ hx hgW); with_reducible assumption) | (refine ⟨⟨?_, ?_, ?_, ?_⟩, Chg.of_below (Below.refl _ _).drew⟩ <;> assumption)
          clear hK K hHd33
          (try simp only [Act.put]); (try simp only [List.setIfInBounds_toArray]); (try simp only [List.set_cons_succ, List.set_cons_zero])
          refine wpAnyH_take (i := 7) (v := ?_) rfl (by kernel_rfl) (by kernel_rfl) (by kernel_rfl) (fun _ _ _ h => h) (Or.inl ⟨by rfl, ?_⟩) (by with_reducible assumption) ?_
          rotate_left
          · intro w hSw; (try dsimp only at hSw); go_simp <;> with_reducible rfl
          (try simp only [Act.put]); (try simp only [List.setIfInBounds_toArray]); (try simp only [List.set_cons_succ, List.set_cons_zero])
          refine wpAnyH_ready (rs := [8, 9]) (by kernel_rfl) (by simp) ?_
          refine AllReadyH.cons (o := _) rfl (fun K hK => ?_) ?_
          · go_simp
            refine hK.out _ _ ?_ (fun hHd35 => ?_)
            · (try dsimp only); first | ((with_reducible refine keep_vs ?_ c _ _ hcx hcg (.inl rfl)); with_reducible assumption) | ((with_reducible refine keep_v4 ?_ g4 _ _ _ _ _ _ _ _ hb4x hb4g hb4m); with_reducible assumption) | (with_reducible assumption) | ((with_reducible refine keep_al ?_ hx hgW); with_reducible assumption) | ((with_reducible refine keep_an ?_ hx hgW); with_reducible assumption) | (refine ⟨⟨?_, ?_, ?_, ?_⟩, Chg.of_below (Below.refl _ _).drew⟩ <;> assumption)
            clear hK K hHd34
            (try simp only [Act.put]); (try simp only [List.setIfInBounds_toArray]); (try simp only [List.set_cons_succ, List.set_cons_zero])
            refine wpAnyH_ready (rs := [9]) (by kernel_rfl) (by simp) ?_
            refine AllReadyH.cons (o := _) rfl (fun K hK => ?_) ?_
            · go_simp
              refine hK.out _ _ ?_ (fun hHd36 => ?_)
              · (try dsimp only); first | ((with_reducible refine keep_vs ?_ c _ _ hcx hcg (.inl rfl)); with_reducible assumption) | ((with_reducible refine keep_v4 ?_ g4 _ _ _ _ _ _ _ _ hb4x hb4g hb4m); with_reducible assumption) | (with_reducible assumption) | ((with_reducible refine keep_al ?_ hx hgW); with_reducible assumption) | ((with_reducible refine keep_an ?_ hx hgW); with_reducible assumption) | (refine ⟨⟨?_, ?_, ?_, ?_⟩, Chg.of_below (Below.refl _ _).drew⟩ <;> assumption)
              clear hK K hHd35
              (try simp only [Act.put]); (try simp only [List.setIfInBounds_toArray]); (try simp only [List.set_cons_succ, List.set_cons_zero])
              refine wpAnyH_done (by kernel_rfl) ?_ _
              refine NoPanic.normal ?_
              have hCH : Chg [c, vb] W _ := (by with_reducible assumption : _ ∧ Chg [c, vb] W _).2
              go_wp2
              go_ret
              refine .inr ⟨rfl, rfl, g4, cap4, (Chg.of_below hb1).trans hCH, ?_, ?_⟩
              · rcases hg4 with h | h
                · exact .inl h
                · right; rw [h]; first | omega | (simp; omega)
              · first | (with_reducible exact fin_a HK.out hown4 hne4 hc4 hf4) | (with_reducible exact fin_b HK.out hown4 hne4 hc4 hf4)
            exact AllReadyH.nil
          refine AllReadyH.cons (o := _) rfl (fun K hK => ?_) ?_
          · go_simp
            refine hK.out _ _ ?_ (fun hHd37 => ?_)
            · (try dsimp only); first | ((with_reducible refine keep_vs ?_ c _ _ hcx hcg (.inl rfl)); with_reducible assumption) | ((with_reducible refine keep_v4 ?_ g4 _ _ _ _ _ _ _ _ hb4x hb4g hb4m); with_reducible assumption) | (with_reducible assumption) | ((with_reducible refine keep_al ?_ hx hgW); with_reducible assumption) | ((with_reducible refine keep_an ?_ hx hgW); with_reducible assumption) | (refine ⟨⟨?_, ?_, ?_, ?_⟩, Chg.of_below (Below.refl _ _).drew⟩ <;> assumption)
            clear hK K hHd34
            (try simp only [Act.put]); (try simp only [List.setIfInBounds_toArray]); (try simp only [List.set_cons_succ, List.set_cons_zero])
            refine wpAnyH_ready (rs := [8]) (by kernel_rfl) (by simp) ?_
            refine AllReadyH.cons (o := _) rfl (fun K hK => ?_) ?_
            · go_simp
              refine hK.out _ _ ?_ (fun hHd38 => ?_)
              · (try dsimp only); first | ((with_reducible refine keep_vs ?_ c _ _ hcx hcg (.inl rfl)); with_reducible assumption) | ((with_reducible refine keep_v4 ?_ g4 _ _ _ _ _ _ _ _ hb4x hb4g hb4m); with_reducible assumption) | (with_reducible assumption) | ((with_reducible refine keep_al ?_ hx hgW); with_reducible assumption) | ((with_reducible refine keep_an ?_ hx hgW); with_reducible assumption) | (refine ⟨⟨?_, ?_, ?_, ?_⟩, Chg.of_below (Below.refl _ _).drew⟩ <;> assumption)
              clear hK K hHd37
              (try simp only [Act.put]); (try simp only [List.setIfInBounds_toArray]); (try simp only [List.set_cons_succ, List.set_cons_zero])
              refine wpAnyH_done (by kernel_rfl) ?_ _
              refine NoPanic.normal ?_
              have hCH : Chg [c, vb] W _ := (by with_reducible assumption : _ ∧ Chg [c, vb] W _).2
              go_wp2
              go_ret
              refine .inr ⟨rfl, rfl, g4, cap4, (Chg.of_below hb1).trans hCH, ?_, ?_⟩
              · rcases hg4 with h | h
                · exact .inl h
                · right; rw [h]; first | omega | (simp; omega)
              · first | (with_reducible exact fin_a HK.out hown4 hne4 hc4 hf4) | (with_reducible exact fin_b HK.out hown4 hne4 hc4 hf4)
            exact AllReadyH.nil
          exact AllReadyH.nil
        exact AllReadyH.nil
      exact AllReadyH.nil
    refine AllReadyH.cons (o := _) rfl (fun K hK => ?_) ?_
    · (go_simp; refine (without_sv (W := W) (x := w.heap.size) (g := g) (o := o) (c := c) (vb := vb) (l := tn) (s := ts) (by with_reducible assumption)).mono ?_; rintro e w1 ⟨rfl, hbw⟩; have hB3 : Below W.heap.size W w1 := ((Below.refl W.heap.size W).alloc (Nat.le_refl _) _).drew.trans (hbw.mono (by simp)); have hsz3 := hB3.size; have hc1w := (hB3.cell (p := ⟨c, 0, none⟩) hcW).trans hc1; have hf1w := (hB3.frozen (p := ⟨c, 0, none⟩) hcW).trans hf1; have hcw1 : c < w1.heap.size := (by omega); have HO3 := Lib.hid (own_below HO1.out hB3); have hS1 := keep_va (by with_reducible assumption) hx hgW hbw; (try dsimp only))
      refine hK.out _ _ ?_ (fun hHd39 => ?_)
      · (try dsimp only); first | ((with_reducible refine keep_vs ?_ c _ _ hcx hcg (.inl rfl)); with_reducible assumption) | ((with_reducible refine keep_v4 ?_ g4 _ _ _ _ _ _ _ _ hb4x hb4g hb4m); with_reducible assumption) | (with_reducible assumption) | ((with_reducible refine keep_al ?_ hx hgW); with_reducible assumption) | ((with_reducible refine keep_an ?_ hx hgW); with_reducible assumption) | (refine ⟨⟨?_, ?_, ?_, ?_⟩, Chg.of_below (Below.refl _ _).drew⟩ <;> assumption)
      clear hK K hHd31
      (try simp only [Act.put]); (try simp only [List.setIfInBounds_toArray]); (try simp only [List.set_cons_succ, List.set_cons_zero])
      refine wpAnyH_ready (rs := [0]) (by kernel_rfl) (by simp) ?_
      refine AllReadyH.cons (o := _) rfl (fun K hK => ?_) ?_
      · go_simp
        refine hK.out _ _ ?_ (fun hHd40 => ?_)
        · (try dsimp only); first | ((with_reducible refine keep_vs ?_ c _ _ hcx hcg (.inl rfl)); with_reducible assumption) | ((with_reducible refine keep_v4 ?_ g4 _ _ _ _ _ _ _ _ hb4x hb4g hb4m); with_reducible assumption) | (with_reducible assumption) | ((with_reducible refine keep_al ?_ hx hgW); with_reducible assumption) | ((with_reducible refine keep_an ?_ hx hgW); with_reducible assumption) | (refine ⟨⟨?_, ?_, ?_, ?_⟩, Chg.of_below (Below.refl _ _).drew⟩ <;> assumption)
        clear hK K hHd39
        (try simp only [Act.put]); (try simp only [List.setIfInBounds_toArray]); (try simp only [List.set_cons_succ, List.set_cons_zero])
        refine wpAnyH_take (i := 4) (v := ?_) rfl (by kernel_rfl) (by kernel_rfl) (by kernel_rfl) (fun _ _ _ h => h) (Or.inl ⟨by rfl, ?_⟩) (by with_reducible assumption) ?_
        rotate_left
        · intro w hSw; (try dsimp only at hSw); go_simp <;> with_reducible rfl
        (try simp only [Act.put]); (try simp only [List.setIfInBounds_toArray]); (try simp only [List.set_cons_succ, List.set_cons_zero])
        refine wpAnyH_ready (rs := [6]) (by kernel_rfl) (by simp) ?_
        refine AllReadyH.cons (o := _) rfl (fun K hK => ?_) ?_
        · (refine step_append_d (by rfl) _ _ _ (by rfl) B 51 j0 _ 4 56 Try.underlying49 hij hy0 hy1 hy2 rfl (by omega) vb k cap (flatV V) (by rfl) HO3.out ⟨w.heap.size + 1, 0, none⟩ 1 1 [.int .i64 0, .string { data := #[] }, .int .i64 0, .slice none 0 0] (by rfl) (by rfl) (fun q x hq => at4b W _ _ _ _ _ _ hz1.symm hbw q x hq) (four_one rfl rfl rfl rfl) (by unfold maxLen; omega) (by omega) (by first | omega | (simp; omega)) ?_; intro g4 cap4 w4 hown4 hgr4 hg4 hlt4 hdr4; have hS4 := keep_vg (by with_reducible assumption) hx hgW hxv hgv hgr4; obtain ⟨⟨u0, e0⟩, f0⟩ := own_get hown4 (i := k * 4) (by omega); obtain ⟨⟨u1, e1⟩, f1⟩ := own_get hown4 (i := k * 4 + 1) (by omega); obtain ⟨⟨u2, e2⟩, f2⟩ := own_get hown4 (i := k * 4 + 2) (by omega); obtain ⟨⟨u3, e3⟩, f3⟩ := own_get hown4 (i := k * 4 + 3) (by omega); have hc4 := (hgr4.cell_far ⟨c, 0, none⟩ (by first | omega | (simp; omega)) (by show some c ≠ some vb; intro e; injection e; omega)).trans hc1w; have hf4 := (hgr4.frozen_far ⟨c, 0, none⟩ (by first | omega | (simp; omega)) (by show some c ≠ some vb; intro e; injection e; omega)).trans hf1w; have hne4 : ¬ g4 = c := (by rcases hg4 with h | h <;> simp [h] <;> omega); have hne5 : ¬ c = g4 := fun h => hne4 h.symm; have hb4x : g4 ≠ w.heap.size := (by rcases hg4 with h | h <;> simp [h] <;> omega); have hb4g : g4 ≠ g := (by rcases hg4 with h | h <;> simp [h] <;> omega); have hb4m : g4 = c ∨ g4 = vb ∨ W.heap.size ≤ g4 := (by rcases hg4 with h | h <;> simp [h] <;> omega))
          refine hK.out _ _ ?_ (fun hHd41 => ?_)
          · (try dsimp only); first | ((with_reducible refine keep_vs ?_ c _ _ hcx hcg (.inl rfl)); with_reducible assumption) | ((with_reducible refine keep_v4 ?_ g4 _ _ _ _ _ _ _ _ hb4x hb4g hb4m); with_reducible assumption) | (with_reducible assumption) | ((with_reducible refine keep_al ?_ hx hgW); with_reducible assumption) | ((with_reducible refine keep_an ?_ hx hgW); with_reducible assumption) | (refine ⟨⟨?_, ?_, ?_, ?_⟩, Chg.of_below (Below.refl _ _).drew⟩ <;> assumption)
          clear hK K hHd40
          (try simp only [Act.put]); (try simp only [List.setIfInBounds_toArray]); (try simp only [List.set_cons_succ, List.set_cons_zero])
          refine wpAnyH_take (i := 7) (v := ?_) rfl (by kernel_rfl) (by kernel_rfl) (by kernel_rfl) (fun _ _ _ h => h) (Or.inl ⟨by rfl, ?_⟩) (by with_reducible assumption) ?_
          rotate_left
          · intro w hSw; (try dsimp only at hSw); go_simp <;> with_reducible rfl
          (try simp only [Act.put]); (try simp only [List.setIfInBounds_toArray]); (try simp only [List.set_cons_succ, List.set_cons_zero])
          refine wpAnyH_ready (rs := [8, 9]) (by kernel_rfl) (by simp) ?_
          refine AllReadyH.cons (o := _) rfl (fun K hK => ?_) ?_
          · go_simp
            refine hK.out _ _ ?_ (fun hHd42 => ?_)
            · (try dsimp only); first | ((with_reducible refine keep_vs ?_ c _ _ hcx hcg (.inl rfl)); with_reducible assumption) | ((with_reducible refine keep_v4 ?_ g4 _ _ _ _ _ _ _ _ hb4x hb4g hb4m); with_reducible assumption) | (with_reducible assumption) | ((with_reducible refine keep_al ?_ hx hgW); with_reducible assumption) | ((with_reducible refine keep_an ?_ hx hgW); with_reducible assumption) | (refine ⟨⟨?_, ?_, ?_, ?_⟩, Chg.of_below (Below.refl _ _).drew⟩ <;> assumption)
            clear hK K hHd41
            (try simp only [Act.put]); (try simp only [List.setIfInBounds_toArray]); (try simp only [List.set_cons_succ, List.set_cons_zero])
            refine wpAnyH_ready (rs := [9]) (by kernel_rfl) (by simp) ?_
            refine AllReadyH.cons (o := _) rfl (fun K hK => ?_) ?_
            · go_simp
              refine hK.out _ _ ?_ (fun hHd43 => ?_)
              · (try dsimp only); first | ((with_reducible refine keep_vs ?_ c _ _ hcx hcg (.inl rfl)); with_reducible assumption) | ((with_reducible refine keep_v4 ?_ g4 _ _ _ _ _ _ _ _ hb4x hb4g hb4m); with_reducible assumption) | (with_reducible assumption) | ((with_reducible refine keep_al ?_ hx hgW); with_reducible assumption) | ((with_reducible refine keep_an ?_ hx hgW); with_reducible assumption) | (refine ⟨⟨?_, ?_, ?_, ?_⟩, Chg.of_below (Below.refl _ _).drew⟩ <;> assumption)
              clear hK K hHd42
              (try simp only [Act.put]); (try simp only [List.setIfInBounds_toArray]); (try simp only [List.set_cons_succ, List.set_cons_zero])
              refine wpAnyH_done (by kernel_rfl) ?_ _
              refine NoPanic.normal ?_
              have hCH : Chg [c, vb] W _ := (by with_reducible assumption : _ ∧ Chg [c, vb] W _).2
              go_wp2
              go_ret
              refine .inr ⟨rfl, rfl, g4, cap4, (Chg.of_below hb1).trans hCH, ?_, ?_⟩
              · rcases hg4 with h | h
                · exact .inl h
                · right; rw [h]; first | omega | (simp; omega)
              · first | (with_reducible exact fin_a HK.out hown4 hne4 hc4 hf4) | (with_reducible exact fin_b HK.out hown4 hne4 hc4 hf4)
            exact AllReadyH.nil
          refine AllReadyH.cons (o := _) rfl (fun K hK => ?_) ?_
          · go_simp
            refine hK.out _ _ ?_ (fun hHd44 => ?_)
            · (try dsimp only); first | ((with_reducible refine keep_vs ?_ c _ _ hcx hcg (.inl rfl)); with_reducible assumption) | ((with_reducible refine keep_v4 ?_ g4 _ _ _ _ _ _ _ _ hb4x hb4g hb4m); with_reducible assumption) | (with_reducible assumption) | ((with_reducible refine keep_al ?_ hx hgW); with_reducible assumption) | ((with_reducible refine keep_an ?_ hx hgW); with_reducible assumption) | (refine ⟨⟨?_, ?_, ?_, ?_⟩, Chg.of_below (Below.refl _ _).drew⟩ <;> assumption)
            clear hK K hHd41
            (try simp only [Act.put]); (try simp only [List.setIfInBounds_toArray]); (try simp only [List.set_cons_succ, List.set_cons_zero])
            refine wpAnyH_ready (rs := [8]) (by kernel_rfl) (by simp) ?_
            refine AllReadyH.cons (o := _) rfl (fun K hK => ?_) ?_
            · go_simp
              refine hK.out _ _ ?_ (fun hHd45 => ?_)
              · (try dsimp only); first | ((with_reducible refine keep_vs ?_ c _ _ hcx hcg (.inl rfl)); with_reducible assumption) | ((with_reducible refine keep_v4 ?_ g4 _ _ _ _ _ _ _ _ hb4x hb4g hb4m); with_reducible assumption) | (with_reducible assumption) | ((with_reducible refine keep_al ?_ hx hgW); with_reducible assumption) | ((with_reducible refine keep_an ?_ hx hgW); with_reducible assumption) | (refine ⟨⟨?_, ?_, ?_, ?_⟩, Chg.of_below (Below.refl _ _).drew⟩ <;> assumption)
              clear hK K hHd44
              (try simp only [Act.put]); (try simp only [List.setIfInBounds_toArray]); (try simp only [List.set_cons_succ, List.set_cons_zero])
              refine wpAnyH_done (by kernel_rfl) ?_ _
              refine NoPanic.normal ?_
              have hCH : Chg [c, vb] W _ := (by with_reducible assumption : _ ∧ Chg [c, vb] W _).2
              go_wp2
              go_ret
              refine .inr ⟨rfl, rfl, g4, cap4, (Chg.of_below hb1).trans hCH, ?_, ?_⟩
              · rcases hg4 with h | h
                · exact .inl h
                · right; rw [h]; first | omega | (simp; omega)
              · first | (with_reducible exact fin_a HK.out hown4 hne4 hc4 hf4) | (with_reducible exact fin_b HK.out hown4 hne4 hc4 hf4)
            exact AllReadyH.nil
          exact AllReadyH.nil
        exact AllReadyH.nil
      exact AllReadyH.nil
    exact AllReadyH.nil
  exact AllReadyH.nil
end Go.Proofs.Ytejkkdnjdfehjaa.termvr
