/-
 THE PROGRAM'S rebuild: a tree is made anew from its leaves to its root, by any function that makes the nodes.
-/
import Derived.Test.YtkkmjaggebjcbaaGreatPk09
import Derived.Test.YtkkmjaggebjcbaaGreatPk13
import Derived.Test.YtkkmjaggebjcbaaGreatPk07
import Derived.Test.YtkkmjaggebjcbaaGreatPk05
import Derived.Deep.DeepCutAuto
import Derived.Deep.LoopGhost
namespace Go.Proofs.YtkkmjaggebjcbaaGreat.rebw
open Go.ChangeShapes Go.WideShapes Go.ChangeAt Go.RowKit
open mem dec rowl trm trmv terml termb termt termx termcl termro tma tmr tmf tmg tmc rebm rebp rebq rebn rebi

theorem set_comm (w : World) {p q : Addr} (h : p.block ≠ q.block) (u v : Value) : (w.setCell p u).setCell q v = (w.setCell q v).setCell p u := by
 simp only [World.setCell]
 congr 1
 apply Array.ext
 ·simp
 ·intro i h1 h2
  simp only [Array.getElem_modify]
  by_cases ha : p.block = i
  ·by_cases hb : q.block = i
   ·exact absurd (ha.trans hb.symm) h
   ·simp [ha, hb]
  ·by_cases hb : q.block = i
   ·simp [ha, hb]
   ·simp [ha, hb]
theorem grown_set {w w' : World} {r : Option Nat} {g j : Nat} (hg : w.grownBy w' r) (h : r = some g ∨ w.heap.size ≤ g) (u : Value) : w.grownBy (w'.setCell ⟨g, j, none⟩ u) r :=
 ⟨hg.os, hg.tape, hg.output, by simpa [World.setCell] using hg.size, fun k hk hn => (Below.heap_setCell w' ⟨g, j, none⟩ u k (fun e => by
  have e' : k = g := e
  subst e'
  rcases h with h | h
  ·exact hn h.symm
  ·omega)).trans (hg.block k hk hn)⟩
section
variable {N Z M B gp cap : Nat} {X : List Nat} {F : TermM → List TermM → Option TermM} {Gd : TermM → Prop} {root : TermM} {wl : World} {T2 T4 : TypeId} {e f : Ent} {Q : List Ent} {w w1 w2 w3 : World}
theorem next_path {Q : List Ent} {w w' : World} (h : PathR N wl B gp cap X T2 T4 Q w) (hb : Below w.heap.size w w') : PathR N wl B gp cap X T2 T4 Q w' :=
 ⟨h.below.trans (hb.mono h.below.size), h.hB, own_below h.row hb, h.node, h.chain, fun e he => own_below (h.done e he) hb, h.apart, fun e he x hx => ⟨has_sub _ (sub_next (Chg.of_below hb) (fun _ hk => .inl hk)) (h.el e he x hx).1, (h.el e he x hx).2⟩, h.hX⟩
theorem next (h : RebI N Z M F Gd root wl B gp cap X T2 T4 e Q w) {w' : World} (hb : Below w.heap.size w w') : RebI N Z M F Gd root wl B gp cap X T2 T4 e Q w' := ⟨next_path h.path hb, h.each, h.ans⟩
/-- the four cells of an element of a row -/
abbrev put4 (w : World) (g j : Nat) (u0 u1 u2 u3 : Value) : World := (((w.setCell ⟨g, j, none⟩ u0).setCell ⟨g, j + 1, none⟩ u1).setCell ⟨g, j + 2, none⟩ u2).setCell ⟨g, j + 3, none⟩ u3
theorem put4_comm (w : World) {g j x i : Nat} (h : x ≠ g) (v u0 u1 u2 u3 : Value) : put4 (w.setCell ⟨x, i, none⟩ v) g j u0 u1 u2 u3 = (put4 w g j u0 u1 u2 u3).setCell ⟨x, i, none⟩ v := by
 have k : ∀ (w : World) (y : Nat) (u : Value), (w.setCell ⟨x, i, none⟩ v).setCell ⟨g, y, none⟩ u = (w.setCell ⟨g, y, none⟩ u).setCell ⟨x, i, none⟩ v := fun w y u => set_comm w h v u
 unfold put4
 rw [k, k, k, k]
theorem put4_own {w : World} {g cap n B : Nat} {T : TypeId} {R : List (TermM × Value)} (hn : n = R.length) {z0 z1 z2 z3 : Value} (h : w.ownsRow B T 4 (.slice (some ⟨g, 0, none⟩) (n + 1) cap) (n + 1) (rowV R ++ [z0, z1, z2, z3])) (u : TermM) (vu : Value) :
  (put4 w g (n * 4) (.int .i64 u.op) (.string (bstr u.name)) (.int .i64 u.sort) vu).ownsRow B T 4 (.slice (some ⟨g, 0, none⟩) (n + 1) cap) (n + 1) (rowV (R ++ [(u, vu)])) := by
 have h' := setCell_own (setCell_own (setCell_own (setCell_own h (n * 4) (.int .i64 u.op)) (n * 4 + 1) (.string (bstr u.name))) (n * 4 + 2) (.int .i64 u.sort)) (n * 4 + 3) vu
 have hl := rowV_len R
 rw [← hn] at hl
 rw [List.set_append_right _ _ (by omega), List.set_append_right _ _ (by omega), List.set_append_right _ _ (by omega), List.set_append_right _ _ (by omega), hl] at h'
 simp only [Nat.sub_self, Nat.add_sub_cancel_left] at h'
 rw [rowV_append]
 exact h'
theorem put4_far (w : World) {g x : Nat} (h : x ≠ g) (j : Nat) (u0 u1 u2 u3 : Value) : (put4 w g j u0 u1 u2 u3).heap[x]? = w.heap[x]? := by
 unfold put4
 rw [Below.heap_setCell _ ⟨g, j + 3, none⟩ u3 x h, Below.heap_setCell _ ⟨g, j + 2, none⟩ u2 x h, Below.heap_setCell _ ⟨g, j + 1, none⟩ u1 x h, Below.heap_setCell _ ⟨g, j, none⟩ u0 x h]
theorem four_at (w : World) (a b c d : Value) (t : TypeId) : ∀ (j : Nat) (x : Value), [a, b, c, d][j]? = some x → (w.alloc (.cells #[a, b, c, d] t)).cell? ((⟨w.heap.size, 0, none⟩ : Addr).add j) = some x := by
 intro j x hx
 match j, hx with
 | 0, hx => simp at hx; subst hx; simp [Addr.add]
 | 1, hx => simp at hx; subst hx; simp [Addr.add]
 | 2, hx => simp at hx; subst hx; simp [Addr.add]
 | 3, hx => simp at hx; subst hx; simp [Addr.add]
theorem four_one {a b c d : Value} (ha : a.oneCell' = true) (hb : b.oneCell' = true) (hc : c.oneCell' = true) (hd : d.oneCell' = true) : ∀ x ∈ [a, b, c, d], x.oneCell' = true := by
 intro x hx
 simp at hx
 rcases hx with rfl | rfl | rfl | rfl <;> assumption
theorem four_get {n : Nat} (l : List Value) (hl : l.length = n * 4) (a b c d : Value) : (l ++ [a, b, c, d])[n * 4]? = some a ∧ (l ++ [a, b, c, d])[n * 4 + 1]? = some b ∧ (l ++ [a, b, c, d])[n * 4 + 2]? = some c ∧ (l ++ [a, b, c, d])[n * 4 + 3]? = some d := by
 refine ⟨?_, ?_, ?_, ?_⟩
 ·rw [List.getElem?_append_right (by omega), hl, Nat.sub_self]; rfl
 ·rw [List.getElem?_append_right (by omega), hl, Nat.add_sub_cancel_left]; rfl
 ·rw [List.getElem?_append_right (by omega), hl, Nat.add_sub_cancel_left]; rfl
 ·rw [List.getElem?_append_right (by omega), hl, Nat.add_sub_cancel_left]; rfl
theorem far_own5 {w5 w6 : World} {B n g5 gp i cap : Nat} {T : TypeId} {xs : List Value} {v : Value} (h : w5.ownsRow B T 4 (.slice (some ⟨g5, 0, none⟩) n cap) n xs) (hne : g5 ≠ gp) (hw : w6 = w5.setCell ⟨gp, i, none⟩ v) : w6.ownsRow B T 4 (.slice (some ⟨g5, 0, none⟩) n cap) n xs := by
 subst hw
 exact (Chg.set (S := [gp]) (by simp) v).own h (fun x hx => by simp [Value.ownBlock] at hx; subst hx; simpa using hne)
/-- the node is closed, the element put in at once -/
theorem pop_a (hF : Makes F Gd Z) (h : RebI N Z M F Gd root wl B gp cap X T2 T4 e (f :: Q) w) (hn : ¬ e.R.length < e.t.args.length) {u : TermM} {vu : Value} (hf : F e.t (e.R.map Prod.fst) = some u) (hb : Bnd u) (hb1 : Below w.heap.size w w1)
  (hu : FormP 21 0 w.heap.size (tmr.blank ((gp :: dvB (e :: f :: Q)) ++ X) w) u w1 vu) (hb2 : Below w1.heap.size w1 w2) {gd cd i k : Nat} (hgd : f.dv.ownBlock = some gd ∨ gd = w2.heap.size) (hlt3 : gd < w3.heap.size)
  (hg : w2.grownBy w3 f.dv.ownBlock) (hk : k = f.R.length) (hi : i = Q.length) (hr : w3.ownsRow B T4 4 (.slice (some ⟨gd, 0, none⟩) (k + 1) cd) (k + 1) (rowV (f.R ++ [(u, vu)]))) :
  RebI N Z M F Gd root wl B gp cap X T2 T4 (putE f u vu (.slice (some ⟨gd, 0, none⟩) (k + 1) cd)) Q (w3.setCell ⟨gp, i * 2 + 1, none⟩ (.slice (some ⟨gd, 0, none⟩) (k + 1) cd)) := by
 subst hk hi
 exact RebI.pop hF h hn hf hb hb1 hu hb2 rfl hgd hlt3 hg hr
/-- the node is closed, the element put into its place afterwards -/
theorem pop_b (hF : Makes F Gd Z) (h : RebI N Z M F Gd root wl B gp cap X T2 T4 e (f :: Q) w) (hn : ¬ e.R.length < e.t.args.length) {u : TermM} {vu : Value} (hf : F e.t (e.R.map Prod.fst) = some u) (hb : Bnd u) (hb1 : Below w.heap.size w w1)
  (hu : FormP 21 0 w.heap.size (tmr.blank ((gp :: dvB (e :: f :: Q)) ++ X) w) u w1 vu) (hb2 : Below w1.heap.size w1 w2) {gd cd i k : Nat} (hgd : f.dv.ownBlock = some gd ∨ gd = w2.heap.size) (hlt3 : gd < w3.heap.size) (hsz : w.heap.size ≤ w2.heap.size)
  (hg : w2.grownBy w3 f.dv.ownBlock) (hk : k = f.R.length) (hi : i = Q.length) {z0 z1 z2 z3 : Value} (hr : w3.ownsRow B T4 4 (.slice (some ⟨gd, 0, none⟩) (k + 1) cd) (k + 1) (rowV f.R ++ [z0, z1, z2, z3])) :
  RebI N Z M F Gd root wl B gp cap X T2 T4 (putE f u vu (.slice (some ⟨gd, 0, none⟩) (k + 1) cd)) Q (put4 (w3.setCell ⟨gp, i * 2 + 1, none⟩ (.slice (some ⟨gd, 0, none⟩) (k + 1) cd)) gd (k * 4) (.int .i64 u.op) (.string (bstr u.name)) (.int .i64 u.sort) vu) := by
 have hne : gp ≠ gd := by
  intro e'
  subst e'
  rcases hgd with h1 | h1
  ·have hapt := h.path.apart
   rw [List.nodup_cons] at hapt
   exact hapt.1 (dvB_mem (e := f) (by simp) h1)
  ·have := (h.path.lt gp (by simp)).2
   omega
 rw [put4_comm _ hne]
 have hgg : f.dv.ownBlock = some gd ∨ w2.heap.size ≤ gd := hgd.imp id (fun h => by omega)
 refine pop_a (w2 := w2) (w3 := put4 w3 gd (k * 4) (.int .i64 u.op) (.string (bstr u.name)) (.int .i64 u.sort) vu) hF h hn hf hb hb1 hu hb2 hgd (by simpa [put4, World.setCell] using hlt3) (grown_set (grown_set (grown_set (grown_set hg hgg _) hgg _) hgg _) hgg _) hk hi (put4_own hk hr u vu)
end
theorem info_open : (Tryz.prog.info? 189).map (fun i => (i.zero, i.size, i.bytes)) = some (some (.agg #[.pointer none, .slice none 0 0]), 2, 32) := by kernel_rfl
theorem two_at (w : World) (u v : Value) (t : TypeId) (b : Nat) (h : b = w.heap.size) : ∀ (j : Nat) (x : Value), [u, v][j]? = some x → (w.alloc (.cells #[u, v] t)).cell? ((⟨b, 0, none⟩ : Addr).add j) = some x := by
 subst h; exact termx.two_cells w u v t
/-- the answer -/
def RebP (F : TermM → List TermM → Option TermM) (Gd : TermM → Prop) (X0 : List Nat) (root : TermM) (w : World) (ex : Ending) (w' : World) : Prop :=
 ∃ u vu r, ex = .returned (.tuple #[aggT u vu, .bool r]) ∧ (r = false → rebM F root = none ∧ u = zT) ∧ (r = true → rebM F root = some u ∧ Gd u ∧ Bnd u) ∧ HasTs 22 0 (tmr.blank X0 w') vu u.args ∧ Below w.heap.size w w'
set_option maxRecDepth 100000 in
set_option maxHeartbeats 16000000 in
/-- impl.rebuild -/
theorem rebuild_any {N Z M : Nat} {F : TermM → List TermM → Option TermM} {Gd : TermM → Prop} (f : Nat) (bnd cb : Array Value) (eg : ∀ args w, (callFunc f args).run Tryz.prog w = .ok (.enter f args) w) (hF : Makes F Gd Z) (hZ : Z * M ≤ 1048576 + Z) (hM : M ≤ 1048577) (root : TermM) (hroot : size root ≤ M) (g0 o0 : Nat) (v0 : Value) (w : World) (X0 : List Nat) (hX0 : ∀ k ∈ X0, k < w.heap.size) (hb : Builds f bnd cb N X0 F Gd w)
  (hn : NodeE N w ⟨g0, o0, root, v0, [], .slice none 0 0⟩) : Calls Tryz.prog 99 #[.pointer (some ⟨g0, o0, none⟩), .func (.func f) bnd cb] w (RebP F Gd X0 root w) := by
 have HBU := Lib.hid hb
 have HNO := Lib.hid hn
 have HF := Lib.hid hF
 obtain ⟨j0, hij, hy0, hy1, hy2⟩ := info_parts info_open
 obtain ⟨j4, hij4, hz0, hz1, hz2⟩ := info_parts info_term
 obtain ⟨O, hmk, hown0⟩ : ∃ O, (∀ W, (Instr.makeSlice 187 (.int .i64 0) (.int .i64 20)).run Tryz.prog W = .ok (.slice (some ⟨W.heap.size, 0, none⟩) 0 20) (W.alloc O)) ∧ ∀ W : World, (W.alloc O).ownsRow W.heap.size 189 2 (.slice (some ⟨W.heap.size, 0, none⟩) 0 20) 0 [] := by
  refine ⟨.cells (madeCells (Value.agg #[.pointer none, .slice none 0 0]).cells ((20 : Int).toNat * j0.size)) 189, fun W => ?_, fun W => ?_⟩
  ·exact run_make W _ _ _ _ Tryz.underlying187 hij hy0 .i64 .i64 0 20 (by omega) (by omega) (by rw [hy2]; omega) (by omega)
  ·exact World.ownsRow_made W _ 20 (Nat.le_refl _) (by unfold maxLen; omega) (by rw [size_madeCells, hy1]; rfl)
 have HOW := Lib.hid (hown0 (w.alloc (.cells #[.int .i64 0, .string { data := #[] }, .int .i64 0, .slice none 0 0] 34)))
 rw [show (w.alloc (.cells #[.int .i64 0, .string { data := #[] }, .int .i64 0, .slice none 0 0] 34)).heap.size = w.heap.size + 1 by simp] at HOW
 have hb1 : Below w.heap.size w (w.alloc (.cells #[.int .i64 0, .string { data := #[] }, .int .i64 0, .slice none 0 0] 34)) := (Below.refl _ _).alloc (Nat.le_refl _) _
 have hx1 : (w.alloc (.cells #[.int .i64 0, .string { data := #[] }, .int .i64 0, .slice none 0 0] 34)).heap[w.heap.size]? = some (.cells #[.int .i64 0, .string { data := #[] }, .int .i64 0, .slice none 0 0] 34 (0, 0)) := termt.heap_at _ _ _ rfl
 have HX1 := Lib.hid hx1
 have HB1 := Lib.hid hb1
 clear hb hn hF hown0 hb1 hx1
 go_enter Tryz.func99, Tryz.ntmps99
 go_wp2_with (at_builtin; go_loud (refine wpList_append_d rfl _ _ _ rfl (w.heap.size + 1) 189 j0 _ 2 32 Tryz.underlying187 hij hy0 hy1 hy2 rfl (by omega) (w.heap.size + 1) 0 20 [] rfl (own_below HOW.out ((Below.refl _ _).alloc (Nat.le_refl _) _)) ⟨w.heap.size + 2, 0, none⟩ 1 1 [.pointer (some ⟨g0, o0, none⟩), .slice none 0 0] rfl rfl (two_at _ _ _ _ _ (by simp)) (termx.two_one rfl rfl) (by unfold maxLen; omega) (by omega) (by first | (simp; done) | (simp; omega)) ?_); intro g' cap' w1 hown1 hgr1 hg1 hlt1 hdr1)
 have hbx : Below (w.heap.size + 1) (w.alloc (.cells #[.int .i64 0, .string { data := #[] }, .int .i64 0, .slice none 0 0] 34)) w1 := by
  refine Below.grown ?_ hgr1 (by first | (simp; done) | (simp; omega)) (by intro k hk; cases hk; exact Nat.le_refl _)
  exact ((Below.refl _ _).alloc (by simp) _).alloc (by first | (simp; done) | (simp; omega)) _
 have HI1 : Hid (RebI N Z M F Gd root w (w.heap.size + 1) g' cap' (w.heap.size :: X0) 189 34 ⟨g0, o0, root, v0, [], .slice none 0 0⟩ [] w1) := Lib.hid (RebI.start ⟨HB1.out.trans (hbx.mono (Nat.le_succ _)), Nat.le_succ _, hown1, by simpa using HNO.out, trivial, by
   intro x hx
   simp at hx
   subst hx
   exact ⟨rfl, .inl ⟨rfl, rfl⟩⟩, by simp [dvB, Value.ownBlock], (by
   intro x hx y hy
   simp at hx
   subst hx
   cases hy), by intro q hq; rcases List.mem_cons.1 hq with rfl | hq; (exact Nat.lt_succ_self _); (exact Nat.lt_succ_of_lt (hX0 q hq))⟩ rfl rfl hroot)
 have HX : Hid (w1.heap[w.heap.size]? = some (.cells #[.int .i64 0, .string { data := #[] }, .int .i64 0, .slice none 0 0] 34 (0, 0))) := Lib.hid ((hbx.block _ (Nat.lt_succ_self _)).trans HX1.out)
 clear hown1 hgr1 hg1 hlt1 hdr1 hbx hmk HX1 HB1 HOW HNO
 go_wp2
 go_loopg [6] (left root [] []) (fun gk v6 wr => ∃ (e : Ent) (Q : List Ent) (gp cap : Nat), v6 = .slice (some ⟨gp, 0, none⟩) (Q.length + 1) cap ∧ Hid (left e.t (e.R.map Prod.fst) (Q.map pair) ≤ gk) ∧ Hid (RebI N Z M F Gd root w (w.heap.size + 1) gp cap (w.heap.size :: X0) 189 34 e Q wr) ∧ Hid (wr.heap[w.heap.size]? = some (.cells #[.int .i64 0, .string { data := #[] }, .int .i64 0, .slice none 0 0] 34 (0, 0))))
 case atStart => exact ⟨_, [], g', cap', rfl, Lib.hid (Nat.le_refl _), HI1, HX⟩
 case round =>
  clear HI1 HX
  obtain ⟨⟨ge, oe, t, v, R, dv⟩, Q, gp, cap, rfl, HLE, HI, HX⟩ := hrel
  obtain ⟨k, hk⟩ : ∃ k, k = Q.length := ⟨_, rfl⟩
  have HK := Lib.hid hk
  rw [← hk]
  have hlen := HI.out.len
  have hown := HI.out.path.row
  obtain ⟨ft1, ft2⟩ := flatE_top (e := ⟨ge, oe, t, v, R, dv⟩) hk
  have hown' : wr.ownsRow (w.heap.size + 1) 189 2 (.slice (some ⟨gp, 0, none⟩) (k + 1) cap) (k + 1) (flatE (⟨ge, oe, t, v, R, dv⟩ :: Q)) := by rw [hk]; exact hown
  have s1 := (hown'.cellAt (k * 2) (by omega)).trans ft1
  have s2 := (hown'.cellAt (k * 2 + 1) (by omega)).trans ft2
  obtain ⟨Ad, cd, hdv, _⟩ := own_slice (HI.out.path.done _ List.mem_cons_self)
  simp only [] at hdv s1 s2
  subst hdv
  obtain ⟨⟨n0, n1, n2, n3⟩, hnt, hnb, _, hna⟩ := HI.out.path.node _ List.mem_cons_self
  simp only [] at n0 n1 n2 n3 hnt hnb hna
  obtain ⟨Aa, ca, rfl, _⟩ := HasR.shape hnt rfl
  have hwr := HI.out.path.below
  have hgl := block_lt_of_cell n0
  simp only [] at hgl
  have m0 := (hwr.cell (p := ⟨ge, oe, none⟩) hgl).trans n0
  have m3 := (hwr.cell (p := ⟨ge, oe + 3, none⟩) hgl).trans n3
  have hgr : ge < wr.heap.size := Nat.lt_of_lt_of_le hgl hwr.size
  have hwz := hwr.size
  have hbz : w.heap.size + 1 ≤ gp ∧ gp < wr.heap.size := HI.out.path.lt gp (by simp)
  have HOWN := Lib.hid hown'
  have HNT := Lib.hid hnt
  have HNB := Lib.hid hnb
  have HNA := Lib.hid hna
  have HWR := Lib.hid hwr
  obtain ⟨m, hm⟩ : ∃ m, m = R.length := ⟨_, rfl⟩
  obtain ⟨al, hal⟩ : ∃ al, al = t.args.length := ⟨_, rfl⟩
  have HML := Lib.hid (And.intro hm hal)
  rw [← hm] at s2
  rw [← hal] at m3
  have hk20 : k ≤ 1048576 := by omega
  clear hk hlen hown ft1 ft2 n0 n1 n2 n3 hnt hnb hna hown' hwr
  obtain ⟨wo, hwo⟩ : ∃ wo, wo = wr := ⟨wr, rfl⟩
  subst hwo
  have i1 : (0 : Int) ≤ (k : Int) := by omega
  have i2 : (k : Int) < ((k : Int) + 1) := by omega
  have hml : (R.length ≤ t.args.length) := (HI.out.each _ List.mem_cons_self).2.1
  have hal20 : al ≤ 1048576 := by
   have h1 := (HI.out.each _ List.mem_cons_self).1
   have h2 := termro.size_eq t
   have h3 := sizes_len t.args
   simp only [] at h1
   omega
  rw [← hm, ← hal] at hml
  clear hm hal
  obtain ⟨W1, hW1⟩ : ∃ W1, W1 = wo.alloc (.cells #[.pointer (some ⟨ge, oe, none⟩), .slice Ad m cd] 189) := ⟨_, rfl⟩
  have hb1 : Below wo.heap.size wo W1 := by rw [hW1]; exact (Below.refl _ _).alloc (Nat.le_refl _) _
  have hz1' : W1.heap.size = wo.heap.size + 1 := by rw [hW1]; simp
  have hx1 : W1.heap[wo.heap.size]? = some (.cells #[.pointer (some ⟨ge, oe, none⟩), .slice Ad m cd] 189 (0, 0)) := by rw [hW1]; exact termt.heap_at _ _ _ rfl
  have HI1 := Lib.hid (next HI.out hb1)
  have HX1 := Lib.hid ((hb1.block _ (by omega)).trans HX.out)
  have c0 : W1.cell? ⟨wo.heap.size, 0, none⟩ = some (.pointer (some ⟨ge, oe, none⟩)) := cell_of_row W1 _ 0 _ _ _ hx1
  have c1 : W1.cell? ⟨wo.heap.size, 1, none⟩ = some (.slice Ad m cd) := cell_of_row W1 _ 1 _ _ _ hx1
  have m3' := (hb1.cell (p := ⟨ge, oe + 3, none⟩) hgr).trans m3
  have m0' := (hb1.cell (p := ⟨ge, oe, none⟩) hgr).trans m0
  by_cases hlt : m < al
  ·have d1 : decide ((m : Int) < (al : Int)) = true := decide_eq_true (by omega)
   obtain ⟨kn, g2, o2, B2, cx, hNk, rfl, _, hg2, f0, f1, f2, f3, hxx, hbx⟩ := term_at HNT.out (j := m) (by have := HML.out.2; omega)
   have hchl : m < t.args.length := by have := HML.out.2; omega
   obtain ⟨x, hx⟩ : ∃ x : Ent, x = ⟨g2, o2 + m * 4, t.args.getD m default, .slice B2 (t.args.getD m default).args.length cx, [], .slice none 0 0⟩ := ⟨_, rfl⟩
   have HXN : Hid (NodeE N w x) := Lib.hid (by rw [hx]; exact ⟨⟨f0, f1, f2, f3⟩, by rw [hNk]; exact hxx.up (Nat.le_succ _), hbx, (HNA.out 1 m hchl g2 o2 ca rfl).1, fun q => (HNA.out (q + 1) m hchl g2 o2 ca rfl).2 _ f3⟩)
   have HXC : Hid (ChildE ⟨ge, oe, t, .slice (some ⟨g2, o2, none⟩) t.args.length ca, R, .slice Ad R.length cd⟩ x) := Lib.hid (by
    rw [hx]
    exact ⟨by show R.length < t.args.length; rw [← HML.out.1]; exact hchl, by show t.args.getD m default = t.args.getD R.length default; rw [← HML.out.1]⟩)
   have hne : ∀ y ∈ (⟨ge, oe, t, .slice (some ⟨g2, o2, none⟩) t.args.length ca, R, .slice Ad R.length cd⟩ :: Q : List Ent), ¬ (y.g = g2 ∧ y.o = o2 + m * 4) := fun y hy => by
    have h1 := chain_depth (e := x) (Q := ⟨ge, oe, t, .slice (some ⟨g2, o2, none⟩) t.args.length ca, R, .slice Ad R.length cd⟩ :: Q) ⟨HXC.out, HI1.out.path.chain⟩ y hy
    have h2 := node_far HXN.out (HI1.out.path.node y hy) h1
    rw [hx] at h2
    exact h2
   have HCI : Hid (∀ q, Calls Tryz.prog 141 #[.slice (some ⟨gp, 0, none⟩) (k + 1) cap, .pointer (some ⟨g2, o2 + m * 4, none⟩)] ((wo.alloc (.cells #[.pointer (some ⟨ge, oe, none⟩), .slice Ad m cd] 189)).drewN q) fun e w' => e = .returned (.bool false) ∧ Below W1.heap.size W1 w') := Lib.hid (fun q => by
    have hbq : Below W1.heap.size W1 (W1.drewN q) := below_drewN (Below.refl _ _) q
    have h := isCircle_any _ (by simp) (by have := HK.out; simp only [List.length_cons]; omega) _ gp cap g2 (o2 + m * 4) (W1.drewN q) (next HI1.out hbq).path.row hne (fun y hy => ((HI1.out.path.node y hy).2.2.2.1.below HI1.out.path.below).below hbq) (((HNA.out 1 m hchl g2 o2 ca rfl).1.below HI1.out.path.below).below hbq)
    simp only [List.length_cons] at h
    rw [← HK.out] at h
    rw [← hW1]
    refine h.mono ?_
    rintro e w' ⟨rfl, rfl⟩
    exact ⟨rfl, hbq⟩)
   have i3 : (0 : Int) ≤ (m : Int) := by omega
   have i4 : (m : Int) < (al : Int) := by omega
   have HHX := Lib.hid hx
   have HAL := HML
   clear hxx hbx hNk hne hx f0 f1 f2 f3
   go_wp2_with fail
   go_quiet (fail)
   go_wp2_with fail
   go_quiet (fail)
   go_wp2_with fail
   refine (HCI.out _).mono ?_
   rintro e' w2 ⟨rfl, hb2⟩
   have HI2 := Lib.hid (next HI1.out hb2)
   have HX2 := Lib.hid ((hb2.block _ (by omega)).trans HX1.out)
   have hownW := HI2.out.path.row
   simp only [List.length_cons] at hownW
   rw [← HK.out] at hownW
   have HOW := Lib.hid hownW
   have hzb : w.heap.size + 1 ≤ w2.heap.size := by have := hb2.size; omega
   have hgp2 : gp < w2.heap.size := by have := hb2.size; omega
   clear hownW hW1 hx1 hb1 hb2 c0 c1 m0 m0' m3 m3' s1 s2 HCI
   go_wp2_with (at_builtin; go_loud (refine wpList_append_d rfl _ _ _ rfl (w.heap.size + 1) 189 j0 _ 2 32 Tryz.underlying187 hij hy0 hy1 hy2 rfl (by omega) gp (k + 1) cap (flatE (⟨ge, oe, t, .slice (some ⟨g2, o2, none⟩) t.args.length ca, R, .slice Ad R.length cd⟩ :: Q)) rfl (own_below HOW.out ((Below.refl _ _).alloc (Nat.le_refl _) _)) ⟨w2.heap.size, 0, none⟩ 1 1 [.pointer (some ⟨g2, o2 + m * 4, none⟩), .slice none 0 0] rfl rfl (two_at _ _ _ _ _ rfl) (termx.two_one rfl rfl) (by unfold maxLen; omega) (by omega) (by first | (simp; done) | (simp; omega)) ?_); intro g4 cap4 w4 hown4 hgr4 hg4 hlt4 hdr4)
   have hbl : Below w2.heap.size w2 (w2.alloc (.cells #[.pointer (some ⟨g2, o2 + m * 4, none⟩), .slice none 0 0] 189)) := (Below.refl _ _).alloc (Nat.le_refl _) _
   have HI4 : Hid (RebI N Z M F Gd root w (w.heap.size + 1) g4 cap4 (w.heap.size :: X0) 189 34 x (⟨ge, oe, t, .slice (some ⟨g2, o2, none⟩) t.args.length ca, R, .slice Ad R.length cd⟩ :: Q) w4) := Lib.hid (by
    refine (next HI2.out hbl).push HXN.out HXC.out (by rw [HHX.out]) (by rw [HHX.out]) ?_ hgr4 hg4
    have e1 : (⟨ge, oe, t, .slice (some ⟨g2, o2, none⟩) t.args.length ca, R, .slice Ad R.length cd⟩ :: Q : List Ent).length.succ = k + 1 + 1 := by rw [List.length_cons, ← HK.out]
    rw [e1, HHX.out]
    exact hown4)
   have HX4 : Hid (w4.heap[w.heap.size]? = some (.cells #[.int .i64 0, .string { data := #[] }, .int .i64 0, .slice none 0 0] 34 (0, 0))) := Lib.hid ((hgr4.block _ (by first | (simp; done) | (simp; omega)) (by intro e'; injection e'; omega)).trans ((hbl.block _ (by omega)).trans HX2.out))
   have HL4 := Lib.hid (RebI.left_push (Q := Q) HXC.out (by rw [HHX.out]))
   have HKK : Hid ((⟨ge, oe, t, .slice (some ⟨g2, o2, none⟩) t.args.length ca, R, .slice Ad R.length cd⟩ :: Q : List Ent).length = k + 1) := Lib.hid (by rw [List.length_cons, ← HK.out])
   clear hown4 hgr4 hg4 hlt4 hdr4 hbl
   go_wp2
   go_roundg (gk - 1)
   case measure => have h1 := HL4.out; have h2 := HLE.out; (try simp only [] at h1 h2); omega
   case rel => exact ⟨x, _, g4, cap4, by rw [HKK.out], Lib.hid (by have h1 := HL4.out; have h2 := HLE.out; (try simp only [] at h1 h2); omega), HI4, HX4⟩
  ·have d1 : decide ((m : Int) < (al : Int)) = false := decide_eq_false (by omega)
   have hfull : ¬ R.length < t.args.length := by have := HML.out; omega
   have HFU := Lib.hid hfull
   have HCB : Hid (∀ q, Calls Tryz.prog f (bnd ++ (#[.pointer (some ⟨ge, oe, none⟩), .slice Ad m cd] ++ cb)) ((wo.alloc (.cells #[.pointer (some ⟨ge, oe, none⟩), .slice Ad m cd] 189)).drewN q) fun ex w' => ∃ WD u vu r, Below W1.heap.size W1 WD ∧ ex = .returned (.tuple #[aggT u vu, .bool r]) ∧ (r = false → F t (R.map Prod.fst) = none) ∧ (r = true → F t (R.map Prod.fst) = some u ∧ Bnd u) ∧ FormP 21 0 WD.heap.size (tmr.blank ((gp :: dvB (⟨ge, oe, t, .slice Aa t.args.length ca, R, .slice Ad R.length cd⟩ :: Q)) ++ (w.heap.size :: X0)) WD) u w' vu ∧ Below WD.heap.size WD w') := Lib.hid (fun q => by
    have hbq : Below W1.heap.size W1 (W1.drewN q) := below_drewN (Below.refl _ _) q
    have HIq := next HI1.out hbq
    have h := HBU.out ((gp :: dvB (⟨ge, oe, t, .slice Aa t.args.length ca, R, .slice Ad R.length cd⟩ :: Q)) ++ (w.heap.size :: X0)) ⟨ge, oe, t, .slice Aa t.args.length ca, R, .slice Ad R.length cd⟩ (W1.drewN q) HIq.path.below (fun y hy => (HIq.path.all y hy).imp (fun h => h.elim (fun h => by rcases List.mem_cons.1 h with rfl | h; (exact .inr (Nat.le_refl _)); (exact .inl h)) .inr) id) (HIq.path.node _ List.mem_cons_self) (HIq.each _ List.mem_cons_self).2.2.1 HIq.row (HIq.rows hZ)
    have hme : R.length = m := HML.out.1.symm
    simp only [] at h
    rw [← hW1]
    rw [hme] at h ⊢
    refine h.mono ?_
    rintro e w' ⟨u, vu, r, h1, h2, h3, h4, h5⟩
    exact ⟨_, u, vu, r, hbq, h1, h2, h3, h4, h5⟩)
   clear hfull
   go_wp2_with fail
   go_quiet (fail)
   go_wp2_with fail
   refine (HCB.out _).mono ?_
   rintro ex w2 ⟨WD, u, vu, r, hbD, rfl, hr0, hr1, hfp, hb2⟩
   have HID := Lib.hid (next HI1.out hbD)
   have HXD := Lib.hid ((hbD.block _ (by omega)).trans HX1.out)
   have HFP := Lib.hid hfp
   have HR0 := Lib.hid hr0
   have HR1 := Lib.hid hr1
   have HB2 := Lib.hid hb2
   have hzD : wo.heap.size + 1 ≤ WD.heap.size := by have := hbD.size; omega
   have hzd2 : WD.heap.size ≤ w2.heap.size := hb2.size
   have hsb : Sub (tmr.blank ((gp :: dvB (⟨ge, oe, t, .slice Aa t.args.length ca, R, .slice Ad R.length cd⟩ :: Q)) ++ (w.heap.size :: X0)) WD) w2 := (sub_blank _ _).trans (Sub.below hb2)
   have hvu := hfp w2 hsb (Kept.refl _ _)
   obtain ⟨Au, cu, rfl, _⟩ := HasR.shape hvu rfl
   have HVU := Lib.hid hvu
   have HX2 : Hid (w2.heap[w.heap.size]? = some (.cells #[.int .i64 0, .string { data := #[] }, .int .i64 0, .slice none 0 0] 34 (0, 0))) := Lib.hid ((hb2.block _ (by omega)).trans HXD.out)
   unfold aggT
   obtain ⟨uo, huo⟩ : ∃ q, q = u.op := ⟨_, rfl⟩
   obtain ⟨un, hun⟩ : ∃ q, q = u.name := ⟨_, rfl⟩
   obtain ⟨us, hus⟩ : ∃ q, q = u.sort := ⟨_, rfl⟩
   obtain ⟨ul, hul⟩ : ∃ q, q = u.args.length := ⟨_, rfl⟩
   have HQQ := Lib.hid (And.intro huo (And.intro hun (And.intro hus hul)))
   rw [← huo, ← hun, ← hus, ← hul]
   clear hW1 hx1 hb1 hbD hfp hr0 hr1 hb2 hsb hvu huo hun hus hul c0 c1 m0 m0' m3 m3' s1 s2 HCB
   obtain ⟨W3, hW3⟩ : ∃ W3, W3 = w2.alloc (.cells #[.int .i64 uo, .string (bstr un), .int .i64 us, .slice Au ul cu] 34) := ⟨_, rfl⟩
   have hb3 : Below w2.heap.size w2 W3 := by rw [hW3]; exact (Below.refl _ _).alloc (Nat.le_refl _) _
   have hz3 : W3.heap.size = w2.heap.size + 1 := by rw [hW3]; simp
   have hx3 : W3.heap[w2.heap.size]? = some (.cells #[.int .i64 uo, .string (bstr un), .int .i64 us, .slice Au ul cu] 34 (0, 0)) := by rw [hW3]; exact termt.heap_at _ _ _ rfl
   obtain ⟨b0, b1, b2, b3⟩ := grami.box4 hx3
   have HX3 := Lib.hid ((hb3.block _ (by omega)).trans HX2.out)
   obtain ⟨z0, z1, z2, z3⟩ := grami.box4 HX3.out
   have q0 : W3.frozen? ⟨w.heap.size, 0, none⟩ = false := frozen_of_row W3 _ 0 _ _ HX3.out
   have q1 : W3.frozen? ⟨w.heap.size, 1, none⟩ = false := frozen_of_row W3 _ 1 _ _ HX3.out
   have q2 : W3.frozen? ⟨w.heap.size, 2, none⟩ = false := frozen_of_row W3 _ 2 _ _ HX3.out
   have q3 : W3.frozen? ⟨w.heap.size, 3, none⟩ = false := frozen_of_row W3 _ 3 _ _ HX3.out
   have HB3 := Lib.hid hb3
   have HDW : Hid (Below w.heap.size w WD) := Lib.hid HID.out.path.below
   have HBW : Hid (Below w.heap.size w W3) := Lib.hid ((HDW.out.trans (HB2.out.mono HDW.out.size)).trans (hb3.mono (by have := HDW.out.size; omega)))
   cases r with
   | false =>
    have HEND : Hid (∀ u0 u1 u2 u3, RebP F Gd X0 root w (.returned (.tuple #[.agg #[.int .i64 0, .string { data := #[] }, .int .i64 0, .slice none 0 0], .bool false])) (set4 W3 w.heap.size u0 u1 u2 u3)) := Lib.hid (fun u0 u1 u2 u3 =>
     ⟨zT, .slice none 0 0, false, rfl, fun _ => ⟨HID.out.fail HFU.out (HR0.out rfl), rfl⟩, fun h => (by cases h), HasR.nil _ _ _ (by unfold maxLen; omega) _, set4_belowB HBW.out (Nat.le_refl _) _ _ _ _⟩)
    go_upto_region 10 with fail
    rw [← hW3]
    clear hW3
    go_wp2
    refine bodyPost_ret (v := .tuple #[.agg #[.int .i64 0, .string { data := #[] }, .int .i64 0, .slice none 0 0], .bool false]) (by simp [results, Tryz.results99, go_sem, z0, z1, z2, z3]) rfl ?_
    exact HEND.out _ _ _ _
   | true =>
    obtain ⟨hfu, hbu⟩ := HR1.out rfl
    have HFQ := Lib.hid (And.intro hfu (And.intro (HF.out.good (fun a ha => by
     obtain ⟨y, hy, rfl⟩ := List.mem_map.1 ha
     exact (HID.out.each _ List.mem_cons_self).2.2.1 y hy) hfu) hbu))
    clear hfu hbu
    cases Q with
    | nil =>
     obtain rfl : k = 0 := HK.out
     have HEND : Hid (∀ u0 u1 u2 u3, RebP F Gd X0 root w (.returned (.tuple #[.agg #[.int .i64 uo, .string (bstr un), .int .i64 us, .slice Au ul cu], .bool true])) (set4 W3 w.heap.size u0 u1 u2 u3)) := Lib.hid (fun u0 u1 u2 u3 => by
      obtain ⟨e1, e2, e3, e4⟩ := HQQ.out
      have hc : Chg ((gp :: dvB [⟨ge, oe, t, .slice Aa t.args.length ca, R, .slice Ad R.length cd⟩]) ++ (w.heap.size :: X0)) WD (set4 W3 w.heap.size u0 u1 u2 u3) := ((((((Chg.of_below HB2.out).trans (Chg.of_below HB3.out)).trans (Chg.set (by simp) u0)).trans (Chg.set (by simp) u1)).trans (Chg.set (by simp) u2)).trans (Chg.set (by simp) u3))
      have hv := HFP.out (tmr.blank X0 (set4 W3 w.heap.size u0 u1 u2 u3)) (rebq.sub_next hc (fun k hk => .inl (by simp [hk]))) (((Kept.below HB3.out (Nat.le_refl _)).trans (set4_kept (by omega) _ _ _ _)).trans (kept_blank (fun k hk => by have := hX0 k hk; have := HDW.out.size; omega)))
      exact ⟨u, .slice Au u.args.length cu, true, by unfold aggT; rw [← e1, ← e2, ← e3, ← e4], fun h => (by cases h), fun _ => ⟨HID.out.last HFU.out HFQ.out.1, HFQ.out.2.1, HFQ.out.2.2⟩, hv, set4_belowB HBW.out (Nat.le_refl _) _ _ _ _⟩)
     go_upto_region 10 with fail
     rw [← hW3]
     clear hW3
     go_wp2
     refine bodyPost_ret (v := .tuple #[.agg #[.int .i64 uo, .string (bstr un), .int .i64 us, .slice Au ul cu], .bool true]) (by simp [results, Tryz.results99, go_sem, z0, z1, z2, z3]) rfl ?_
     exact HEND.out _ _ _ _
    | cons fe Q =>
     obtain ⟨gf, og, tf, vf, Rf, df⟩ := fe
     obtain ⟨kk, rfl⟩ : ∃ kk, k = kk + 1 := ⟨Q.length, by have := HK.out; simpa using this⟩
     have HKK : Hid (kk = Q.length) := Lib.hid (by have := HK.out; simpa using this)
     obtain ⟨Af, cf, hdf, _⟩ := own_slice (HID.out.path.done ⟨gf, og, tf, vf, Rf, df⟩ (by simp))
     simp only [] at hdf
     subst hdf
     have HI3 := Lib.hid (next (next HID.out HB2.out) HB3.out)
     have hpo : W3.ownsRow (w.heap.size + 1) 189 2 (.slice (some ⟨gp, 0, none⟩) (kk + 1) cap) (kk + 1) (flatE (⟨gf, og, tf, vf, Rf, .slice Af Rf.length cf⟩ :: Q)) := by
      have h1 := HI3.out.path.row
      have e1 : (⟨ge, oe, t, .slice Aa t.args.length ca, R, .slice Ad R.length cd⟩ :: ⟨gf, og, tf, vf, Rf, .slice Af Rf.length cf⟩ :: Q : List Ent).length = kk + 1 + 1 := by simp [HKK.out]
      rw [e1] at h1
      have h2 := own_take h1 (m := kk + 1) (by omega)
      rwa [flatE_pop (by simp [HKK.out])] at h2
     have HPO := Lib.hid hpo
     have hkc : kk + 1 ≤ cap := (termz.own_lt hpo).2.2
     have p1 := (hpo.cellAt (kk * 2 + 1) (by omega)).trans (flatE_top (e := ⟨gf, og, tf, vf, Rf, .slice Af Rf.length cf⟩) HKK.out).2
     simp only [] at p1
     have HDO : Hid (W3.ownsRow (w.heap.size + 1) 34 4 (.slice Af Rf.length cf) Rf.length (rowV Rf)) := Lib.hid (HI3.out.path.done ⟨gf, og, tf, vf, Rf, .slice Af Rf.length cf⟩ (by simp))
     have hch : Rf.length < tf.args.length := HI3.out.path.chain.1.1
     have hfl : tf.args.length ≤ 1048576 := by
      have h1 := (HI3.out.each ⟨gf, og, tf, vf, Rf, .slice Af Rf.length cf⟩ (by simp)).1
      have h2 := termro.size_eq tf
      have h3 := sizes_len tf.args
      simp only [] at h1
      omega
     have hneb : ∀ q, (Value.slice Af Rf.length cf).ownBlock = some q → q ≠ gp ∧ w.heap.size + 1 ≤ q ∧ q < WD.heap.size := fun q hq => by
      have h0 := dvB_mem (e := ⟨gf, og, tf, vf, Rf, .slice Af Rf.length cf⟩) (Q := ⟨ge, oe, t, .slice Aa t.args.length ca, R, .slice Ad R.length cd⟩ :: ⟨gf, og, tf, vf, Rf, .slice Af Rf.length cf⟩ :: Q) (by simp) hq
      refine ⟨fun e' => ?_, HID.out.path.lt q (List.mem_cons_of_mem _ h0)⟩
      have h1 := HI3.out.path.apart
      rw [List.nodup_cons] at h1
      subst e'
      exact h1.1 h0
     have HNB2 := Lib.hid hneb
     have HPA : Hid (∀ (wA w5 : World) (g5 c5 n : Nat), n = Rf.length → Below w2.heap.size w2 wA → wA.grownBy w5 (Value.slice Af n cf).ownBlock → ((Value.slice Af n cf).ownBlock = some g5 ∨ g5 = wA.heap.size) → g5 < w5.heap.size → w5.ownsRow (w.heap.size + 1) 34 4 (.slice (some ⟨g5, 0, none⟩) (n + 1) c5) (n + 1) (rowV Rf ++ [.int .i64 uo, .string (bstr un), .int .i64 us, .slice Au ul cu]) →
       RebI N Z M F Gd root w (w.heap.size + 1) gp cap (w.heap.size :: X0) 189 34 (putE ⟨gf, og, tf, vf, Rf, .slice Af Rf.length cf⟩ u (.slice Au u.args.length cu) (.slice (some ⟨g5, 0, none⟩) (n + 1) c5)) Q (w5.setCell ⟨gp, kk * 2 + 1, none⟩ (.slice (some ⟨g5, 0, none⟩) (n + 1) c5))) := Lib.hid (fun wA w5 g5 c5 n hn hA hg hgd hlt ho => by
      obtain ⟨e1, e2, e3, e4⟩ := HQQ.out
      subst hn
      refine pop_a HF.out HID.out HFU.out HFQ.out.1 HFQ.out.2.2 HB2.out HFP.out hA hgd hlt hg rfl HKK.out ?_
      rw [rowV_append, ← e4]
      show w5.ownsRow _ _ _ _ _ (rowV Rf ++ [.int .i64 u.op, .string (bstr u.name), .int .i64 u.sort, .slice Au ul cu])
      rw [← e1, ← e2, ← e3]
      exact ho)
     have HPB : Hid (∀ (wA w5 : World) (g5 c5 n : Nat) (y0 y1 y2 y3 : Value), n = Rf.length → Below w2.heap.size w2 wA → wA.grownBy w5 (Value.slice Af n cf).ownBlock → ((Value.slice Af n cf).ownBlock = some g5 ∨ g5 = wA.heap.size) → g5 < w5.heap.size → w5.ownsRow (w.heap.size + 1) 34 4 (.slice (some ⟨g5, 0, none⟩) (n + 1) c5) (n + 1) (rowV Rf ++ [y0, y1, y2, y3]) →
       RebI N Z M F Gd root w (w.heap.size + 1) gp cap (w.heap.size :: X0) 189 34 (putE ⟨gf, og, tf, vf, Rf, .slice Af Rf.length cf⟩ u (.slice Au u.args.length cu) (.slice (some ⟨g5, 0, none⟩) (n + 1) c5)) Q (put4 (w5.setCell ⟨gp, kk * 2 + 1, none⟩ (.slice (some ⟨g5, 0, none⟩) (n + 1) c5)) g5 (n * 4) (.int .i64 uo) (.string (bstr un)) (.int .i64 us) (.slice Au ul cu))) := Lib.hid (fun wA w5 g5 c5 n y0 y1 y2 y3 hn hA hg hgd hlt ho => by
      obtain ⟨e1, e2, e3, e4⟩ := HQQ.out
      subst hn
      rw [e1, e2, e3, e4]
      exact pop_b HF.out HID.out HFU.out HFQ.out.1 HFQ.out.2.2 HB2.out HFP.out hA hgd hlt (by have := hA.size; omega) hg rfl HKK.out ho)
     have HMS : Hid (∀ g5 c5 n, left (putE ⟨gf, og, tf, vf, Rf, .slice Af Rf.length cf⟩ u (.slice Au u.args.length cu) (.slice (some ⟨g5, 0, none⟩) (n + 1) c5)).t ((putE ⟨gf, og, tf, vf, Rf, .slice Af Rf.length cf⟩ u (.slice Au u.args.length cu) (.slice (some ⟨g5, 0, none⟩) (n + 1) c5)).R.map Prod.fst) (Q.map pair) < gk) := Lib.hid (fun g5 c5 n => Nat.lt_of_lt_of_le (RebI.left_pop (e := ⟨ge, oe, t, .slice Aa t.args.length ca, R, .slice Ad R.length cd⟩)) HLE.out)
     have HXW : Hid (∀ (wA w5 : World), Below w2.heap.size w2 wA → wA.grownBy w5 (Value.slice Af Rf.length cf).ownBlock → w5.heap[w.heap.size]? = some (.cells #[.int .i64 0, .string { data := #[] }, .int .i64 0, .slice none 0 0] 34 (0, 0))) := Lib.hid (fun wA w5 hA hg => by
      refine (hg.block _ (by have := hA.size; omega) (fun e' => ?_)).trans ((hA.block _ (by omega)).trans HX2.out)
      have := (HNB2.out _ e'.symm).2.1
      omega)
     obtain ⟨n, hn⟩ : ∃ n, n = Rf.length := ⟨_, rfl⟩
     have HN := Lib.hid hn
     rw [← hn] at p1 hch HDO HXW HNB2
     have hn20 : n ≤ 1048576 := by omega
     clear hpo hneb hn hch hfl z0 z1 z2 z3 q0 q1 q2 q3
     have hkc' : (kk : Int) + 1 ≤ (cap : Int) := by omega
     have d7 : (((kk : Int) + 1) == 0) = false := by simp; omega
     have d8 : decide ((kk : Int) + 1 = 0) = false := decide_eq_false (by omega)
     go_upto_region 10 with fail
     rw [← hW3]
     clear hW3
     go_upto_region 15 with fail
     go_cut [71] (fun v71 wx => ∃ b : Bool, v71 = Value.bool b ∧ Below W3.heap.size W3 wx)
     case first =>
      go_region
      all_goals (go_wp2_with fail; go_meet; refine ⟨_, rfl, ?_⟩; repeat (first | exact Below.refl _ _ | refine Below.drew ?_ | refine below_drewN ?_ _ | refine Below.alloc ?_ (by first | (simp; done) | (simp; omega)) _ | refine Below.setCell ?_ (by first | (simp; done) | (simp; omega)) _))
     case rest =>
      obtain ⟨b, rfl, hbc⟩ := hcut
      obtain ⟨w4, rfl⟩ : ∃ w4, w4 = wc := ⟨wc, rfl⟩
      have hz4 : W3.heap.size ≤ w4.heap.size := hbc.size
      have hzw : w.heap.size + 1 ≤ w4.heap.size := by omega
      have hgp4 : gp < w4.heap.size := by omega
      have hng : ¬ w4.heap.size = gp := by omega
      have hng' : ¬ gp = w4.heap.size := by omega
      have p14 := (hbc.cell (p := ⟨gp, kk * 2 + 1, none⟩) (show gp < W3.heap.size by omega)).trans p1
      have HPO4 := Lib.hid (own_below HPO.out hbc)
      have HDO4 := Lib.hid (own_below HDO.out hbc)
      have hlt3 : w2.heap.size < W3.heap.size := by omega
      have HSB : Hid (∀ w', Below w4.heap.size w4 w' → w'.cell? ⟨w2.heap.size, 0, none⟩ = some (.int .i64 uo) ∧ w'.cell? ⟨w2.heap.size, 1, none⟩ = some (.string (bstr un)) ∧ w'.cell? ⟨w2.heap.size, 2, none⟩ = some (.int .i64 us) ∧ w'.cell? ⟨w2.heap.size, 3, none⟩ = some (.slice Au ul cu)) := Lib.hid (fun w' h' => by
       have h2 := hbc.trans (h'.mono hz4)
       exact ⟨(h2.cell (p := ⟨w2.heap.size, 0, none⟩) hlt3).trans b0, (h2.cell (p := ⟨w2.heap.size, 1, none⟩) hlt3).trans b1, (h2.cell (p := ⟨w2.heap.size, 2, none⟩) hlt3).trans b2, (h2.cell (p := ⟨w2.heap.size, 3, none⟩) hlt3).trans b3⟩)
      have HW2 : Hid (∀ w', Below w4.heap.size w4 w' → Below w2.heap.size w2 w') := Lib.hid (fun w' h' => HB3.out.trans ((hbc.trans (h'.mono hz4)).mono HB3.out.size))
      have hgw2 : gp ≠ w2.heap.size := by omega
      have HST : Hid (∀ (wA w5 : World), Below w4.heap.size w4 wA → wA.grownBy w5 (Value.slice Af n cf).ownBlock → (w5.cell? ⟨w2.heap.size, 0, none⟩ = some (.int .i64 uo) ∧ w5.cell? ⟨w2.heap.size, 1, none⟩ = some (.string (bstr un)) ∧ w5.cell? ⟨w2.heap.size, 2, none⟩ = some (.int .i64 us) ∧ w5.cell? ⟨w2.heap.size, 3, none⟩ = some (.slice Au ul cu)) ∧
        (∀ v, (w5.setCell ⟨gp, kk * 2 + 1, none⟩ v).cell? ⟨w2.heap.size, 0, none⟩ = some (.int .i64 uo) ∧ (w5.setCell ⟨gp, kk * 2 + 1, none⟩ v).cell? ⟨w2.heap.size, 1, none⟩ = some (.string (bstr un)) ∧ (w5.setCell ⟨gp, kk * 2 + 1, none⟩ v).cell? ⟨w2.heap.size, 2, none⟩ = some (.int .i64 us) ∧ (w5.setCell ⟨gp, kk * 2 + 1, none⟩ v).cell? ⟨w2.heap.size, 3, none⟩ = some (.slice Au ul cu)) ∧
        (w5.cell? ⟨gp, kk * 2 + 1, none⟩ = some (.slice Af n cf) ∧ w5.frozen? ⟨gp, kk * 2 + 1, none⟩ = false) ∧ (∀ v, (w5.setCell ⟨gp, kk * 2 + 1, none⟩ v).heap[w.heap.size]? = some (.cells #[.int .i64 0, .string { data := #[] }, .int .i64 0, .slice none 0 0] 34 (0, 0)))) := Lib.hid (fun wA w5 hA hg => by
       have hzA := hA.size
       obtain ⟨d0, d1, d2, d3⟩ := HSB.out wA hA
       have hnw : some w2.heap.size ≠ (Value.slice Af n cf).ownBlock := fun e' => by
        have := (HNB2.out _ e'.symm).2.2
        omega
       have c : ∀ i, w5.cell? ⟨w2.heap.size, i, none⟩ = wA.cell? ⟨w2.heap.size, i, none⟩ := fun i => hg.cell_far ⟨w2.heap.size, i, none⟩ (by show w2.heap.size < _; omega) hnw
       have k : ∀ v i, (w5.setCell ⟨gp, kk * 2 + 1, none⟩ v).cell? ⟨w2.heap.size, i, none⟩ = w5.cell? ⟨w2.heap.size, i, none⟩ := fun v i => World.cell?_setCell_other w5 ⟨gp, kk * 2 + 1, none⟩ ⟨w2.heap.size, i, none⟩ v (fun e' => hgw2 (congrArg Addr.block e'))
       have ho := World.ownsRow.kept (own_below HPO4.out hA) hg (.inr (fun e' => (HNB2.out gp (by rw [← e']; rfl)).1 rfl))
       have hfl := flatE_top (e := ⟨gf, og, tf, vf, Rf, .slice Af Rf.length cf⟩) (Q := Q) HKK.out
       have hcc := (ho.cellAt (kk * 2 + 1) (by omega)).trans hfl.2
       simp only [] at hcc
       rw [← HN.out] at hcc
       refine ⟨⟨(c 0).trans d0, (c 1).trans d1, (c 2).trans d2, (c 3).trans d3⟩, fun v => ⟨(k v 0).trans ((c 0).trans d0), (k v 1).trans ((c 1).trans d1), (k v 2).trans ((c 2).trans d2), (k v 3).trans ((c 3).trans d3)⟩, ⟨hcc, ho.frozenAt _⟩, fun v => ?_⟩
       rw [Below.heap_setCell w5 ⟨gp, kk * 2 + 1, none⟩ v w.heap.size (by show w.heap.size ≠ gp; omega)]
       exact HXW.out wA w5 (HW2.out _ hA) hg)
      have hi0 : (0 : Int) ≤ (kk : Int) := by omega
      have hwk : IntKind.i64.wrap (kk : Int) = (kk : Int) := IntWalk.i64_in _ (by omega)
      have hk0 : (0 : Int) ≤ (kk : Int) ∧ (kk : Int) < (kk : Int) + 1 := by omega
      have hi1 : (kk : Int) < (kk : Int) + 1 := by omega
      clear p1 b0 b1 b2 b3 hbc
      cases b with
      | false =>
       go_wp2_with fail
       refine wp_region_noPanic ?_
       refine wp_region_held_drew (S := (fun w' => w'.cell? ⟨w2.heap.size, 0, none⟩ = some (.int .i64 uo) ∧ w'.cell? ⟨w2.heap.size, 1, none⟩ = some (.string (bstr un)) ∧ w'.cell? ⟨w2.heap.size, 2, none⟩ = some (.int .i64 us) ∧ w'.cell? ⟨w2.heap.size, 3, none⟩ = some (.slice Au ul cu))) (by kernel_rfl) ?_ (fun hHd0 => ?_)
       ·exact HSB.out _ (Below.refl _ _).drew
       refine wpAnyH_take (i := 0) (v := ?_) rfl (by kernel_rfl) (by kernel_rfl) (by kernel_rfl) (fun _ _ _ h => h) (Or.inl ⟨by rfl, ?_⟩) (by with_reducible assumption) ?_
       rotate_left
       ·intro w hSw; (try dsimp only at hSw); go_simp <;> with_reducible rfl
       (try simp only [Act.put]); (try simp only [List.setIfInBounds_toArray]); (try simp only [List.set_cons_succ, List.set_cons_zero])
       refine wpAnyH_take (i := 1) (v := ?_) rfl (by kernel_rfl) (by kernel_rfl) (by kernel_rfl) (fun _ _ _ h => h) (Or.inl ⟨by rfl, ?_⟩) (by with_reducible assumption) ?_
       rotate_left
       ·intro w hSw; (try dsimp only at hSw); go_simp <;> with_reducible rfl
       (try simp only [Act.put]); (try simp only [List.setIfInBounds_toArray]); (try simp only [List.set_cons_succ, List.set_cons_zero])
       refine wpAnyH_take (i := 2) (v := ?_) rfl (by kernel_rfl) (by kernel_rfl) (by kernel_rfl) (fun _ _ _ h => h) (Or.inl ⟨by rfl, ?_⟩) (by with_reducible assumption) ?_
       rotate_left
       ·intro w hSw; (try dsimp only at hSw); go_simp <;> with_reducible rfl
       (try simp only [Act.put]); (try simp only [List.setIfInBounds_toArray]); (try simp only [List.set_cons_succ, List.set_cons_zero])
       refine wpAnyH_take (i := 3) (v := ?_) rfl (by kernel_rfl) (by kernel_rfl) (by kernel_rfl) (fun _ _ _ h => h) (Or.inl ⟨by rfl, ?_⟩) (by with_reducible assumption) ?_
       rotate_left
       ·intro w hSw; (try dsimp only at hSw); go_simp <;> with_reducible rfl
       (try simp only [Act.put]); (try simp only [List.setIfInBounds_toArray]); (try simp only [List.set_cons_succ, List.set_cons_zero])
       refine wpAnyH_take (i := 4) (v := ?_) rfl (by kernel_rfl) (by kernel_rfl) (by kernel_rfl) (fun _ _ _ h => h) (Or.inl ⟨by rfl, ?_⟩) (by with_reducible assumption) ?_
       rotate_left
       ·intro w hSw; (try dsimp only at hSw); go_simp <;> with_reducible rfl
       (try simp only [Act.put]); (try simp only [List.setIfInBounds_toArray]); (try simp only [List.set_cons_succ, List.set_cons_zero])
       refine wpAnyH_take (i := 5) (v := ?_) rfl (by kernel_rfl) (by kernel_rfl) (by kernel_rfl) (fun _ _ _ h => h) (Or.inl ⟨by rfl, ?_⟩) (by with_reducible assumption) ?_
       rotate_left
       ·intro w hSw; (try dsimp only at hSw); go_simp <;> with_reducible rfl
       (try simp only [Act.put]); (try simp only [List.setIfInBounds_toArray]); (try simp only [List.set_cons_succ, List.set_cons_zero])
       refine wpAnyH_take (i := 6) (v := ?_) rfl (by kernel_rfl) (by kernel_rfl) (by kernel_rfl) (fun _ _ _ h => h) (Or.inl ⟨by rfl, ?_⟩) (by with_reducible assumption) ?_
       rotate_left
       ·intro w hSw; (try dsimp only at hSw); go_simp <;> with_reducible rfl
       (try simp only [Act.put]); (try simp only [List.setIfInBounds_toArray]); (try simp only [List.set_cons_succ, List.set_cons_zero])
       refine wpAnyH_take (i := 7) (v := ?_) rfl (by kernel_rfl) (by kernel_rfl) (by kernel_rfl) (fun _ _ _ h => h) (Or.inl ⟨by rfl, ?_⟩) (by with_reducible assumption) ?_
       rotate_left
       ·intro w hSw; (try dsimp only at hSw); go_simp <;> with_reducible rfl
       (try simp only [Act.put]); (try simp only [List.setIfInBounds_toArray]); (try simp only [List.set_cons_succ, List.set_cons_zero])
       refine wpAnyH_take (i := 9) (v := ?_) rfl (by kernel_rfl) (by kernel_rfl) (by kernel_rfl) (fun _ _ _ h => h) (Or.inl ⟨by rfl, ?_⟩) (by with_reducible assumption) ?_
       rotate_left
       ·intro w hSw; (try dsimp only at hSw); go_simp <;> with_reducible rfl
       (try simp only [Act.put]); (try simp only [List.setIfInBounds_toArray]); (try simp only [List.set_cons_succ, List.set_cons_zero])
       refine wpAnyH_ready (rs := [8, 10]) (by kernel_rfl) (by simp) ?_
       refine AllReadyH.cons (o := _) rfl (fun K hK => ?_) ?_
       ·go_simp
        refine hK.out _ _ ?_ (fun hHd1 => ?_)
        ·(try dsimp only); first | (exact hS5.1) | (exact hS5.2.1 _) | (exact HSB.out _ (by repeat (first | exact Below.refl _ _ | refine Below.drew ?_ | refine Below.alloc ?_ (by first | (simp; done) | (simp; omega)) _)))
        clear hK K hHd0
        (try simp only [Act.put]); (try simp only [List.setIfInBounds_toArray]); (try simp only [List.set_cons_succ, List.set_cons_zero])
        refine wpAnyH_ready (rs := [10]) (by kernel_rfl) (by simp) ?_
        refine AllReadyH.cons (o := _) rfl (fun K hK => ?_) ?_
        ·go_simp
         refine hK.out _ _ ?_ (fun hHd2 => ?_)
         ·(try dsimp only); first | (exact hS5.1) | (exact hS5.2.1 _) | (exact HSB.out _ (by repeat (first | exact Below.refl _ _ | refine Below.drew ?_ | refine Below.alloc ?_ (by first | (simp; done) | (simp; omega)) _)))
         clear hK K hHd1
         (try simp only [Act.put]); (try simp only [List.setIfInBounds_toArray]); (try simp only [List.set_cons_succ, List.set_cons_zero])
         refine wpAnyH_ready (rs := [11]) (by kernel_rfl) (by simp) ?_
         refine AllReadyH.cons (o := _) rfl (fun K hK => ?_) ?_
         ·((refine step_append_lies _ (by rfl) _ _ _ (by rfl) (w.heap.size + 1) 34 j4 _ 4 56 Tryz.underlying32 hij4 hz0 hz1 hz2 rfl (by omega) (.slice Af n cf) n (rowV Rf) (by rfl) (own_below HDO4.out (by repeat (first | exact Below.refl _ _ | refine Below.drew ?_ | refine Below.alloc ?_ (by first | (simp; done) | (simp; omega)) _))) ⟨_, 0, none⟩ 1 1 [.int .i64 uo, .string (bstr un), .int .i64 us, .slice Au ul cu] (by rfl) (by rfl) (fun q x hq => four_at _ _ _ _ _ _ q x hq) (four_one rfl rfl rfl rfl) (by omega) (by unfold maxLen; omega) (by omega) (by first | (simp; done) | (simp; omega)) _ rfl ?_; intro g5 c5 w5 hown5 hgr5 hg5 hlt5; have hS5 := HST.out _ w5 (by repeat (first | exact Below.refl _ _ | refine Below.drew ?_ | refine Below.alloc ?_ (by first | (simp; done) | (simp; omega)) _)) hgr5))
          refine hK.out _ _ ?_ (fun hHd3 => ?_)
          ·(try dsimp only); first | (exact hS5.1) | (exact hS5.2.1 _) | (exact HSB.out _ (by repeat (first | exact Below.refl _ _ | refine Below.drew ?_ | refine Below.alloc ?_ (by first | (simp; done) | (simp; omega)) _)))
          clear hK K hHd2
          (try simp only [Act.put]); (try simp only [List.setIfInBounds_toArray]); (try simp only [List.set_cons_succ, List.set_cons_zero])
          refine wpAnyH_take (i := 12) (v := ?_) rfl (by kernel_rfl) (by kernel_rfl) (by kernel_rfl) (fun _ _ _ h => h) (Or.inl ⟨by rfl, ?_⟩) (by with_reducible assumption) ?_
          rotate_left
          ·intro w hSw; (try dsimp only at hSw); go_simp <;> with_reducible rfl
          (try simp only [Act.put]); (try simp only [List.setIfInBounds_toArray]); (try simp only [List.set_cons_succ, List.set_cons_zero])
          refine wpAnyH_take (i := 13) (v := ?_) rfl (by kernel_rfl) (by kernel_rfl) (by kernel_rfl) (fun _ _ _ h => h) (Or.inl ⟨by rfl, ?_⟩) (by with_reducible assumption) ?_
          rotate_left
          ·intro w hSw; (try dsimp only at hSw); go_simp <;> with_reducible rfl
          (try simp only [Act.put]); (try simp only [List.setIfInBounds_toArray]); (try simp only [List.set_cons_succ, List.set_cons_zero])
          refine wpAnyH_ready (rs := [14]) (by kernel_rfl) (by simp) ?_
          refine AllReadyH.cons (o := _) rfl (fun K hK => ?_) ?_
          ·(have hcg := hS5.2.2.1.1; have hfg := hS5.2.2.1.2; go_simp)
           refine hK.out _ _ ?_ (fun hHd4 => ?_)
           ·(try dsimp only); first | (exact hS5.1) | (exact hS5.2.1 _) | (exact HSB.out _ (by repeat (first | exact Below.refl _ _ | refine Below.drew ?_ | refine Below.alloc ?_ (by first | (simp; done) | (simp; omega)) _)))
           clear hK K hHd3
           (try simp only [Act.put]); (try simp only [List.setIfInBounds_toArray]); (try simp only [List.set_cons_succ, List.set_cons_zero])
           refine wpAnyH_done (by kernel_rfl) ?_ _
           refine NoPanic.normal ?_
           have HI5 := Lib.hid (HPA.out _ w5 g5 c5 n HN.out (HW2.out _ (by repeat (first | exact Below.refl _ _ | refine Below.drew ?_ | refine Below.alloc ?_ (by first | (simp; done) | (simp; omega)) _))) hgr5 hg5 hlt5 hown5)
           have HX5 := Lib.hid (hS5.2.2.2 (.slice (some ⟨g5, 0, none⟩) (n + 1) c5))
           have HM5 := Lib.hid (HMS.out g5 c5 n)
           clear hown5 hgr5 hg5 hS5
           go_wp2
           go_roundg (gk - 1)
           case measure => have := HM5.out; omega
           case rel => exact ⟨_, Q, gp, cap, by rw [← HKK.out], Lib.hid (by have := HM5.out; omega), HI5, HX5⟩
          exact AllReadyH.nil
         exact AllReadyH.nil
        exact AllReadyH.nil
       refine AllReadyH.cons (o := _) rfl (fun K hK => ?_) ?_
       ·go_simp
        refine hK.out _ _ ?_ (fun hHd5 => ?_)
        ·(try dsimp only); first | (exact hS5.1) | (exact hS5.2.1 _) | (exact HSB.out _ (by repeat (first | exact Below.refl _ _ | refine Below.drew ?_ | refine Below.alloc ?_ (by first | (simp; done) | (simp; omega)) _)))
        clear hK K hHd0
        (try simp only [Act.put]); (try simp only [List.setIfInBounds_toArray]); (try simp only [List.set_cons_succ, List.set_cons_zero])
        refine wpAnyH_ready (rs := [8]) (by kernel_rfl) (by simp) ?_
        refine AllReadyH.cons (o := _) rfl (fun K hK => ?_) ?_
        ·go_simp
         refine hK.out _ _ ?_ (fun hHd6 => ?_)
         ·(try dsimp only); first | (exact hS5.1) | (exact hS5.2.1 _) | (exact HSB.out _ (by repeat (first | exact Below.refl _ _ | refine Below.drew ?_ | refine Below.alloc ?_ (by first | (simp; done) | (simp; omega)) _)))
         clear hK K hHd5
         (try simp only [Act.put]); (try simp only [List.setIfInBounds_toArray]); (try simp only [List.set_cons_succ, List.set_cons_zero])
         refine wpAnyH_ready (rs := [11]) (by kernel_rfl) (by simp) ?_
         refine AllReadyH.cons (o := _) rfl (fun K hK => ?_) ?_
         ·((refine step_append_lies _ (by rfl) _ _ _ (by rfl) (w.heap.size + 1) 34 j4 _ 4 56 Tryz.underlying32 hij4 hz0 hz1 hz2 rfl (by omega) (.slice Af n cf) n (rowV Rf) (by rfl) (own_below HDO4.out (by repeat (first | exact Below.refl _ _ | refine Below.drew ?_ | refine Below.alloc ?_ (by first | (simp; done) | (simp; omega)) _))) ⟨_, 0, none⟩ 1 1 [.int .i64 uo, .string (bstr un), .int .i64 us, .slice Au ul cu] (by rfl) (by rfl) (fun q x hq => four_at _ _ _ _ _ _ q x hq) (four_one rfl rfl rfl rfl) (by omega) (by unfold maxLen; omega) (by omega) (by first | (simp; done) | (simp; omega)) _ rfl ?_; intro g5 c5 w5 hown5 hgr5 hg5 hlt5; have hS5 := HST.out _ w5 (by repeat (first | exact Below.refl _ _ | refine Below.drew ?_ | refine Below.alloc ?_ (by first | (simp; done) | (simp; omega)) _)) hgr5))
          refine hK.out _ _ ?_ (fun hHd7 => ?_)
          ·(try dsimp only); first | (exact hS5.1) | (exact hS5.2.1 _) | (exact HSB.out _ (by repeat (first | exact Below.refl _ _ | refine Below.drew ?_ | refine Below.alloc ?_ (by first | (simp; done) | (simp; omega)) _)))
          clear hK K hHd6
          (try simp only [Act.put]); (try simp only [List.setIfInBounds_toArray]); (try simp only [List.set_cons_succ, List.set_cons_zero])
          refine wpAnyH_take (i := 12) (v := ?_) rfl (by kernel_rfl) (by kernel_rfl) (by kernel_rfl) (fun _ _ _ h => h) (Or.inl ⟨by rfl, ?_⟩) (by with_reducible assumption) ?_
          rotate_left
          ·intro w hSw; (try dsimp only at hSw); go_simp <;> with_reducible rfl
          (try simp only [Act.put]); (try simp only [List.setIfInBounds_toArray]); (try simp only [List.set_cons_succ, List.set_cons_zero])
          refine wpAnyH_take (i := 13) (v := ?_) rfl (by kernel_rfl) (by kernel_rfl) (by kernel_rfl) (fun _ _ _ h => h) (Or.inl ⟨by rfl, ?_⟩) (by with_reducible assumption) ?_
          rotate_left
          ·intro w hSw; (try dsimp only at hSw); go_simp <;> with_reducible rfl
          (try simp only [Act.put]); (try simp only [List.setIfInBounds_toArray]); (try simp only [List.set_cons_succ, List.set_cons_zero])
          refine wpAnyH_ready (rs := [14]) (by kernel_rfl) (by simp) ?_
          refine AllReadyH.cons (o := _) rfl (fun K hK => ?_) ?_
          ·(have hcg := hS5.2.2.1.1; have hfg := hS5.2.2.1.2; go_simp)
           refine hK.out _ _ ?_ (fun hHd8 => ?_)
           ·(try dsimp only); first | (exact hS5.1) | (exact hS5.2.1 _) | (exact HSB.out _ (by repeat (first | exact Below.refl _ _ | refine Below.drew ?_ | refine Below.alloc ?_ (by first | (simp; done) | (simp; omega)) _)))
           clear hK K hHd7
           (try simp only [Act.put]); (try simp only [List.setIfInBounds_toArray]); (try simp only [List.set_cons_succ, List.set_cons_zero])
           refine wpAnyH_done (by kernel_rfl) ?_ _
           refine NoPanic.normal ?_
           have HI5 := Lib.hid (HPA.out _ w5 g5 c5 n HN.out (HW2.out _ (by repeat (first | exact Below.refl _ _ | refine Below.drew ?_ | refine Below.alloc ?_ (by first | (simp; done) | (simp; omega)) _))) hgr5 hg5 hlt5 hown5)
           have HX5 := Lib.hid (hS5.2.2.2 (.slice (some ⟨g5, 0, none⟩) (n + 1) c5))
           have HM5 := Lib.hid (HMS.out g5 c5 n)
           clear hown5 hgr5 hg5 hS5
           go_wp2
           go_roundg (gk - 1)
           case measure => have := HM5.out; omega
           case rel => exact ⟨_, Q, gp, cap, by rw [← HKK.out], Lib.hid (by have := HM5.out; omega), HI5, HX5⟩
          exact AllReadyH.nil
         exact AllReadyH.nil
        exact AllReadyH.nil
       exact AllReadyH.nil
      | true =>
       go_wp2_with fail
       refine wp_region_noPanic ?_
       refine wp_region_held_drew (S := (fun w' => w'.cell? ⟨w2.heap.size, 0, none⟩ = some (.int .i64 uo) ∧ w'.cell? ⟨w2.heap.size, 1, none⟩ = some (.string (bstr un)) ∧ w'.cell? ⟨w2.heap.size, 2, none⟩ = some (.int .i64 us) ∧ w'.cell? ⟨w2.heap.size, 3, none⟩ = some (.slice Au ul cu))) (by kernel_rfl) ?_ (fun hHd0 => ?_)
       ·exact HSB.out _ (Below.refl _ _).drew
       refine wpAnyH_take (i := 0) (v := ?_) rfl (by kernel_rfl) (by kernel_rfl) (by kernel_rfl) (fun _ _ _ h => h) (Or.inl ⟨by rfl, ?_⟩) (by with_reducible assumption) ?_
       rotate_left
       ·intro w hSw; (try dsimp only at hSw); go_simp <;> with_reducible rfl
       (try simp only [Act.put]); (try simp only [List.setIfInBounds_toArray]); (try simp only [List.set_cons_succ, List.set_cons_zero])
       refine wpAnyH_take (i := 1) (v := ?_) rfl (by kernel_rfl) (by kernel_rfl) (by kernel_rfl) (fun _ _ _ h => h) (Or.inl ⟨by rfl, ?_⟩) (by with_reducible assumption) ?_
       rotate_left
       ·intro w hSw; (try dsimp only at hSw); go_simp <;> with_reducible rfl
       (try simp only [Act.put]); (try simp only [List.setIfInBounds_toArray]); (try simp only [List.set_cons_succ, List.set_cons_zero])
       refine wpAnyH_take (i := 2) (v := ?_) rfl (by kernel_rfl) (by kernel_rfl) (by kernel_rfl) (fun _ _ _ h => h) (Or.inl ⟨by rfl, ?_⟩) (by with_reducible assumption) ?_
       rotate_left
       ·intro w hSw; (try dsimp only at hSw); go_simp <;> with_reducible rfl
       (try simp only [Act.put]); (try simp only [List.setIfInBounds_toArray]); (try simp only [List.set_cons_succ, List.set_cons_zero])
       refine wpAnyH_take (i := 3) (v := ?_) rfl (by kernel_rfl) (by kernel_rfl) (by kernel_rfl) (fun _ _ _ h => h) (Or.inl ⟨by rfl, ?_⟩) (by with_reducible assumption) ?_
       rotate_left
       ·intro w hSw; (try dsimp only at hSw); go_simp <;> with_reducible rfl
       (try simp only [Act.put]); (try simp only [List.setIfInBounds_toArray]); (try simp only [List.set_cons_succ, List.set_cons_zero])
       refine wpAnyH_take (i := 4) (v := ?_) rfl (by kernel_rfl) (by kernel_rfl) (by kernel_rfl) (fun _ _ _ h => h) (Or.inl ⟨by rfl, ?_⟩) (by with_reducible assumption) ?_
       rotate_left
       ·intro w hSw; (try dsimp only at hSw); go_simp <;> with_reducible rfl
       (try simp only [Act.put]); (try simp only [List.setIfInBounds_toArray]); (try simp only [List.set_cons_succ, List.set_cons_zero])
       refine wpAnyH_take (i := 5) (v := ?_) rfl (by kernel_rfl) (by kernel_rfl) (by kernel_rfl) (fun _ _ _ h => h) (Or.inl ⟨by rfl, ?_⟩) (by with_reducible assumption) ?_
       rotate_left
       ·intro w hSw; (try dsimp only at hSw); go_simp <;> with_reducible rfl
       (try simp only [Act.put]); (try simp only [List.setIfInBounds_toArray]); (try simp only [List.set_cons_succ, List.set_cons_zero])
       refine wpAnyH_take (i := 6) (v := ?_) rfl (by kernel_rfl) (by kernel_rfl) (by kernel_rfl) (fun _ _ _ h => h) (Or.inl ⟨by rfl, ?_⟩) (by with_reducible assumption) ?_
       rotate_left
       ·intro w hSw; (try dsimp only at hSw); go_simp <;> with_reducible rfl
       (try simp only [Act.put]); (try simp only [List.setIfInBounds_toArray]); (try simp only [List.set_cons_succ, List.set_cons_zero])
       refine wpAnyH_take (i := 7) (v := ?_) rfl (by kernel_rfl) (by kernel_rfl) (by kernel_rfl) (fun _ _ _ h => h) (Or.inl ⟨by rfl, ?_⟩) (by with_reducible assumption) ?_
       rotate_left
       ·intro w hSw; (try dsimp only at hSw); go_simp <;> with_reducible rfl
       (try simp only [Act.put]); (try simp only [List.setIfInBounds_toArray]); (try simp only [List.set_cons_succ, List.set_cons_zero])
       refine wpAnyH_take (i := 9) (v := ?_) rfl (by kernel_rfl) (by kernel_rfl) (by kernel_rfl) (fun _ _ _ h => h) (Or.inl ⟨by rfl, ?_⟩) (by with_reducible assumption) ?_
       rotate_left
       ·intro w hSw; (try dsimp only at hSw); go_simp <;> with_reducible rfl
       (try simp only [Act.put]); (try simp only [List.setIfInBounds_toArray]); (try simp only [List.set_cons_succ, List.set_cons_zero])
       refine wpAnyH_ready (rs := [8, 11]) (by kernel_rfl) (by simp) ?_
       refine AllReadyH.cons (o := _) rfl (fun K hK => ?_) ?_
       ·go_simp
        refine hK.out _ _ ?_ (fun hHd1 => ?_)
        ·(try dsimp only); first | (exact hS5.1) | (exact hS5.2.1 _) | (exact HSB.out _ (by repeat (first | exact Below.refl _ _ | refine Below.drew ?_ | refine Below.alloc ?_ (by first | (simp; done) | (simp; omega)) _)))
        clear hK K hHd0
        (try simp only [Act.put]); (try simp only [List.setIfInBounds_toArray]); (try simp only [List.set_cons_succ, List.set_cons_zero])
        refine wpAnyH_take (i := 10) (v := ?_) rfl (by kernel_rfl) (by kernel_rfl) (by kernel_rfl) (fun _ _ _ h => h) (Or.inl ⟨by rfl, ?_⟩) (by with_reducible assumption) ?_
        rotate_left
        ·intro w hSw; (try dsimp only at hSw); go_simp <;> with_reducible rfl
        (try simp only [Act.put]); (try simp only [List.setIfInBounds_toArray]); (try simp only [List.set_cons_succ, List.set_cons_zero])
        refine wpAnyH_ready (rs := [11]) (by kernel_rfl) (by simp) ?_
        refine AllReadyH.cons (o := _) rfl (fun K hK => ?_) ?_
        ·go_simp
         refine hK.out _ _ ?_ (fun hHd2 => ?_)
         ·(try dsimp only); first | (exact hS5.1) | (exact hS5.2.1 _) | (exact HSB.out _ (by repeat (first | exact Below.refl _ _ | refine Below.drew ?_ | refine Below.alloc ?_ (by first | (simp; done) | (simp; omega)) _)))
         clear hK K hHd1
         (try simp only [Act.put]); (try simp only [List.setIfInBounds_toArray]); (try simp only [List.set_cons_succ, List.set_cons_zero])
         refine wpAnyH_ready (rs := [12]) (by kernel_rfl) (by simp) ?_
         refine AllReadyH.cons (o := _) rfl (fun K hK => ?_) ?_
         ·((refine step_append_lies _ (by rfl) _ _ _ (by rfl) (w.heap.size + 1) 34 j4 _ 4 56 Tryz.underlying32 hij4 hz0 hz1 hz2 rfl (by omega) (.slice Af n cf) n (rowV Rf) (by rfl) (own_below HDO4.out (by repeat (first | exact Below.refl _ _ | refine Below.drew ?_ | refine Below.alloc ?_ (by first | (simp; done) | (simp; omega)) _))) ⟨_, 0, none⟩ 1 1 [.int .i64 0, .string { data := #[] }, .int .i64 0, .slice none 0 0] (by rfl) (by rfl) (fun q x hq => four_at _ _ _ _ _ _ q x hq) (four_one rfl rfl rfl rfl) (by omega) (by unfold maxLen; omega) (by omega) (by first | (simp; done) | (simp; omega)) _ rfl ?_; intro g5 c5 w5 hown5 hgr5 hg5 hlt5; have hS5 := HST.out _ w5 (by repeat (first | exact Below.refl _ _ | refine Below.drew ?_ | refine Below.alloc ?_ (by first | (simp; done) | (simp; omega)) _)) hgr5))
          refine hK.out _ _ ?_ (fun hHd3 => ?_)
          ·(try dsimp only); first | (exact hS5.1) | (exact hS5.2.1 _) | (exact HSB.out _ (by repeat (first | exact Below.refl _ _ | refine Below.drew ?_ | refine Below.alloc ?_ (by first | (simp; done) | (simp; omega)) _)))
          clear hK K hHd2
          (try simp only [Act.put]); (try simp only [List.setIfInBounds_toArray]); (try simp only [List.set_cons_succ, List.set_cons_zero])
          refine wpAnyH_take (i := 13) (v := ?_) rfl (by kernel_rfl) (by kernel_rfl) (by kernel_rfl) (fun _ _ _ h => h) (Or.inl ⟨by rfl, ?_⟩) (by with_reducible assumption) ?_
          rotate_left
          ·intro w hSw; (try dsimp only at hSw); go_simp <;> with_reducible rfl
          (try simp only [Act.put]); (try simp only [List.setIfInBounds_toArray]); (try simp only [List.set_cons_succ, List.set_cons_zero])
          refine wpAnyH_take (i := 14) (v := ?_) rfl (by kernel_rfl) (by kernel_rfl) (by kernel_rfl) (fun _ _ _ h => h) (Or.inl ⟨by rfl, ?_⟩) (by with_reducible assumption) ?_
          rotate_left
          ·intro w hSw; (try dsimp only at hSw); go_simp <;> with_reducible rfl
          (try simp only [Act.put]); (try simp only [List.setIfInBounds_toArray]); (try simp only [List.set_cons_succ, List.set_cons_zero])
          refine wpAnyH_ready (rs := [15]) (by kernel_rfl) (by simp) ?_
          refine AllReadyH.cons (o := _) rfl (fun K hK => ?_) ?_
          ·(have hcg := hS5.2.2.1.1; have hfg := hS5.2.2.1.2; go_simp)
           refine hK.out _ _ ?_ (fun hHd4 => ?_)
           ·(try dsimp only); first | (exact hS5.1) | (exact hS5.2.1 _) | (exact HSB.out _ (by repeat (first | exact Below.refl _ _ | refine Below.drew ?_ | refine Below.alloc ?_ (by first | (simp; done) | (simp; omega)) _)))
           clear hK K hHd3
           (try simp only [Act.put]); (try simp only [List.setIfInBounds_toArray]); (try simp only [List.set_cons_succ, List.set_cons_zero])
           refine wpAnyH_done (by kernel_rfl) ?_ _
           refine NoPanic.normal ?_
           have HI5 := Lib.hid (HPB.out _ w5 g5 c5 n _ _ _ _ HN.out (HW2.out _ (by repeat (first | exact Below.refl _ _ | refine Below.drew ?_ | refine Below.alloc ?_ (by first | (simp; done) | (simp; omega)) _))) hgr5 hg5 hlt5 hown5)
           have HX5 := Lib.hid (hS5.2.2.2 (.slice (some ⟨g5, 0, none⟩) (n + 1) c5))
           have HM5 := Lib.hid (HMS.out g5 c5 n)
           have hg5b : w.heap.size + 1 ≤ g5 := own_block hown5 g5 rfl
           have hng5 : g5 ≠ gp := by
            rcases hg5 with h5 | h5
            ·exact (HNB2.out g5 h5).1
            ·have h6 : g5 = w4.heap.size + 1 := by rw [h5]; simp
             omega
           obtain ⟨w6, hw6⟩ : ∃ w6, w6 = w5.setCell ⟨gp, kk * 2 + 1, none⟩ (.slice (some ⟨g5, 0, none⟩) (n + 1) c5) := ⟨_, rfl⟩
           have ho6 := far_own5 hown5 hng5 hw6
           have hrl := rowV_len Rf
           rw [← HN.out] at hrl
           have e0 := (ho6.cellAt (n * 4) (by omega)).trans (four_get (rowV Rf) hrl _ _ _ _).1
           have e1 := (ho6.cellAt (n * 4 + 1) (by omega)).trans (four_get (rowV Rf) hrl _ _ _ _).2.1
           have e2 := (ho6.cellAt (n * 4 + 2) (by omega)).trans (four_get (rowV Rf) hrl _ _ _ _).2.2.1
           have e3 := (ho6.cellAt (n * 4 + 3) (by omega)).trans (four_get (rowV Rf) hrl _ _ _ _).2.2.2
           have t0 := ho6.frozenAt (n * 4)
           have t1 := ho6.frozenAt (n * 4 + 1)
           have t2 := ho6.frozenAt (n * 4 + 2)
           have t3 := ho6.frozenAt (n * 4 + 3)
           have hj0 : (0 : Int) ≤ (n : Int) := by omega
           have hj1 : (n : Int) < (n : Int) + 1 := by omega
           rw [← hw6]
           rw [← hw6] at HI5 HX5
           have hgx : w.heap.size ≠ g5 := by omega
           clear hown5 hgr5 hg5 hS5 hw6 ho6 hrl
           go_wp2
           go_roundg (gk - 1)
           case measure => have := HM5.out; omega
           case rel => exact ⟨_, Q, gp, cap, by rw [← HKK.out], Lib.hid (by have := HM5.out; omega), HI5, Lib.hid ((put4_far w6 hgx _ _ _ _ _).trans HX5.out)⟩
          exact AllReadyH.nil
         exact AllReadyH.nil
        exact AllReadyH.nil
       refine AllReadyH.cons (o := _) rfl (fun K hK => ?_) ?_
       ·go_simp
        refine hK.out _ _ ?_ (fun hHd5 => ?_)
        ·(try dsimp only); first | (exact hS5.1) | (exact hS5.2.1 _) | (exact HSB.out _ (by repeat (first | exact Below.refl _ _ | refine Below.drew ?_ | refine Below.alloc ?_ (by first | (simp; done) | (simp; omega)) _)))
        clear hK K hHd0
        (try simp only [Act.put]); (try simp only [List.setIfInBounds_toArray]); (try simp only [List.set_cons_succ, List.set_cons_zero])
        refine wpAnyH_ready (rs := [8]) (by kernel_rfl) (by simp) ?_
        refine AllReadyH.cons (o := _) rfl (fun K hK => ?_) ?_
        ·go_simp
         refine hK.out _ _ ?_ (fun hHd6 => ?_)
         ·(try dsimp only); first | (exact hS5.1) | (exact hS5.2.1 _) | (exact HSB.out _ (by repeat (first | exact Below.refl _ _ | refine Below.drew ?_ | refine Below.alloc ?_ (by first | (simp; done) | (simp; omega)) _)))
         clear hK K hHd5
         (try simp only [Act.put]); (try simp only [List.setIfInBounds_toArray]); (try simp only [List.set_cons_succ, List.set_cons_zero])
         refine wpAnyH_take (i := 10) (v := ?_) rfl (by kernel_rfl) (by kernel_rfl) (by kernel_rfl) (fun _ _ _ h => h) (Or.inl ⟨by rfl, ?_⟩) (by with_reducible assumption) ?_
         rotate_left
         ·intro w hSw; (try dsimp only at hSw); go_simp <;> with_reducible rfl
         (try simp only [Act.put]); (try simp only [List.setIfInBounds_toArray]); (try simp only [List.set_cons_succ, List.set_cons_zero])
         refine wpAnyH_ready (rs := [12]) (by kernel_rfl) (by simp) ?_
         refine AllReadyH.cons (o := _) rfl (fun K hK => ?_) ?_
         ·((refine step_append_lies _ (by rfl) _ _ _ (by rfl) (w.heap.size + 1) 34 j4 _ 4 56 Tryz.underlying32 hij4 hz0 hz1 hz2 rfl (by omega) (.slice Af n cf) n (rowV Rf) (by rfl) (own_below HDO4.out (by repeat (first | exact Below.refl _ _ | refine Below.drew ?_ | refine Below.alloc ?_ (by first | (simp; done) | (simp; omega)) _))) ⟨_, 0, none⟩ 1 1 [.int .i64 0, .string { data := #[] }, .int .i64 0, .slice none 0 0] (by rfl) (by rfl) (fun q x hq => four_at _ _ _ _ _ _ q x hq) (four_one rfl rfl rfl rfl) (by omega) (by unfold maxLen; omega) (by omega) (by first | (simp; done) | (simp; omega)) _ rfl ?_; intro g5 c5 w5 hown5 hgr5 hg5 hlt5; have hS5 := HST.out _ w5 (by repeat (first | exact Below.refl _ _ | refine Below.drew ?_ | refine Below.alloc ?_ (by first | (simp; done) | (simp; omega)) _)) hgr5))
          refine hK.out _ _ ?_ (fun hHd7 => ?_)
          ·(try dsimp only); first | (exact hS5.1) | (exact hS5.2.1 _) | (exact HSB.out _ (by repeat (first | exact Below.refl _ _ | refine Below.drew ?_ | refine Below.alloc ?_ (by first | (simp; done) | (simp; omega)) _)))
          clear hK K hHd6
          (try simp only [Act.put]); (try simp only [List.setIfInBounds_toArray]); (try simp only [List.set_cons_succ, List.set_cons_zero])
          refine wpAnyH_take (i := 13) (v := ?_) rfl (by kernel_rfl) (by kernel_rfl) (by kernel_rfl) (fun _ _ _ h => h) (Or.inl ⟨by rfl, ?_⟩) (by with_reducible assumption) ?_
          rotate_left
          ·intro w hSw; (try dsimp only at hSw); go_simp <;> with_reducible rfl
          (try simp only [Act.put]); (try simp only [List.setIfInBounds_toArray]); (try simp only [List.set_cons_succ, List.set_cons_zero])
          refine wpAnyH_take (i := 14) (v := ?_) rfl (by kernel_rfl) (by kernel_rfl) (by kernel_rfl) (fun _ _ _ h => h) (Or.inl ⟨by rfl, ?_⟩) (by with_reducible assumption) ?_
          rotate_left
          ·intro w hSw; (try dsimp only at hSw); go_simp <;> with_reducible rfl
          (try simp only [Act.put]); (try simp only [List.setIfInBounds_toArray]); (try simp only [List.set_cons_succ, List.set_cons_zero])
          refine wpAnyH_ready (rs := [15]) (by kernel_rfl) (by simp) ?_
          refine AllReadyH.cons (o := _) rfl (fun K hK => ?_) ?_
          ·(have hcg := hS5.2.2.1.1; have hfg := hS5.2.2.1.2; go_simp)
           refine hK.out _ _ ?_ (fun hHd8 => ?_)
           ·(try dsimp only); first | (exact hS5.1) | (exact hS5.2.1 _) | (exact HSB.out _ (by repeat (first | exact Below.refl _ _ | refine Below.drew ?_ | refine Below.alloc ?_ (by first | (simp; done) | (simp; omega)) _)))
           clear hK K hHd7
           (try simp only [Act.put]); (try simp only [List.setIfInBounds_toArray]); (try simp only [List.set_cons_succ, List.set_cons_zero])
           refine wpAnyH_done (by kernel_rfl) ?_ _
           refine NoPanic.normal ?_
           have HI5 := Lib.hid (HPB.out _ w5 g5 c5 n _ _ _ _ HN.out (HW2.out _ (by repeat (first | exact Below.refl _ _ | refine Below.drew ?_ | refine Below.alloc ?_ (by first | (simp; done) | (simp; omega)) _))) hgr5 hg5 hlt5 hown5)
           have HX5 := Lib.hid (hS5.2.2.2 (.slice (some ⟨g5, 0, none⟩) (n + 1) c5))
           have HM5 := Lib.hid (HMS.out g5 c5 n)
           have hg5b : w.heap.size + 1 ≤ g5 := own_block hown5 g5 rfl
           have hng5 : g5 ≠ gp := by
            rcases hg5 with h5 | h5
            ·exact (HNB2.out g5 h5).1
            ·have h6 : g5 = w4.heap.size + 1 := by rw [h5]; simp
             omega
           obtain ⟨w6, hw6⟩ : ∃ w6, w6 = w5.setCell ⟨gp, kk * 2 + 1, none⟩ (.slice (some ⟨g5, 0, none⟩) (n + 1) c5) := ⟨_, rfl⟩
           have ho6 := far_own5 hown5 hng5 hw6
           have hrl := rowV_len Rf
           rw [← HN.out] at hrl
           have e0 := (ho6.cellAt (n * 4) (by omega)).trans (four_get (rowV Rf) hrl _ _ _ _).1
           have e1 := (ho6.cellAt (n * 4 + 1) (by omega)).trans (four_get (rowV Rf) hrl _ _ _ _).2.1
           have e2 := (ho6.cellAt (n * 4 + 2) (by omega)).trans (four_get (rowV Rf) hrl _ _ _ _).2.2.1
           have e3 := (ho6.cellAt (n * 4 + 3) (by omega)).trans (four_get (rowV Rf) hrl _ _ _ _).2.2.2
           have t0 := ho6.frozenAt (n * 4)
           have t1 := ho6.frozenAt (n * 4 + 1)
           have t2 := ho6.frozenAt (n * 4 + 2)
           have t3 := ho6.frozenAt (n * 4 + 3)
           have hj0 : (0 : Int) ≤ (n : Int) := by omega
           have hj1 : (n : Int) < (n : Int) + 1 := by omega
           rw [← hw6]
           rw [← hw6] at HI5 HX5
           have hgx : w.heap.size ≠ g5 := by omega
           clear hown5 hgr5 hg5 hS5 hw6 ho6 hrl
           go_wp2
           go_roundg (gk - 1)
           case measure => have := HM5.out; omega
           case rel => exact ⟨_, Q, gp, cap, by rw [← HKK.out], Lib.hid (by have := HM5.out; omega), HI5, Lib.hid ((put4_far w6 hgx _ _ _ _ _).trans HX5.out)⟩
          exact AllReadyH.nil
         exact AllReadyH.nil
        exact AllReadyH.nil
       exact AllReadyH.nil
end Go.Proofs.YtkkmjaggebjcbaaGreat.rebw
