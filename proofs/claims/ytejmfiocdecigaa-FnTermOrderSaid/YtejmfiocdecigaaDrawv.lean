/-
  THE DRAW OF TWO TERMS FOR OccursIn.
-/
import Derived.Test.YtejmfiocdecigaaDrawt
namespace Go.Proofs.Ytejmfiocdecigaa.drawv
open Go.ChangeShapes Go.WideShapes Go.ChangeAt Go.RowKit
open mem rowl trm trmv terml termb termt termu draw drawm termvx drawt

theorem two_set {w0 : World} {x e o : Nat} {a b c d a' b' c' d' : Value} (h : (w0.cell? ⟨x, 0, none⟩ = some a ∧ w0.cell? ⟨x, 1, none⟩ = some b ∧ w0.cell? ⟨x, 2, none⟩ = some c ∧ w0.cell? ⟨x, 3, none⟩ = some d) ∧ w0.cell? ⟨e, o, none⟩ = some a' ∧ w0.cell? ⟨e, o + 1, none⟩ = some b' ∧ w0.cell? ⟨e, o + 2, none⟩ = some c' ∧ w0.cell? ⟨e, o + 3, none⟩ = some d') (y : Nat) (u0 u1 u2 u3 : Value) (h1 : y ≠ x) (h2 : y ≠ e) :
    (((((w0.setCell ⟨y, 0, none⟩ u0).setCell ⟨y, 1, none⟩ u1).setCell ⟨y, 2, none⟩ u2).setCell ⟨y, 3, none⟩ u3).cell? ⟨x, 0, none⟩ = some a ∧ ((((w0.setCell ⟨y, 0, none⟩ u0).setCell ⟨y, 1, none⟩ u1).setCell ⟨y, 2, none⟩ u2).setCell ⟨y, 3, none⟩ u3).cell? ⟨x, 1, none⟩ = some b ∧ ((((w0.setCell ⟨y, 0, none⟩ u0).setCell ⟨y, 1, none⟩ u1).setCell ⟨y, 2, none⟩ u2).setCell ⟨y, 3, none⟩ u3).cell? ⟨x, 2, none⟩ = some c ∧ ((((w0.setCell ⟨y, 0, none⟩ u0).setCell ⟨y, 1, none⟩ u1).setCell ⟨y, 2, none⟩ u2).setCell ⟨y, 3, none⟩ u3).cell? ⟨x, 3, none⟩ = some d) ∧ ((((w0.setCell ⟨y, 0, none⟩ u0).setCell ⟨y, 1, none⟩ u1).setCell ⟨y, 2, none⟩ u2).setCell ⟨y, 3, none⟩ u3).cell? ⟨e, o, none⟩ = some a' ∧ ((((w0.setCell ⟨y, 0, none⟩ u0).setCell ⟨y, 1, none⟩ u1).setCell ⟨y, 2, none⟩ u2).setCell ⟨y, 3, none⟩ u3).cell? ⟨e, o + 1, none⟩ = some b' ∧ ((((w0.setCell ⟨y, 0, none⟩ u0).setCell ⟨y, 1, none⟩ u1).setCell ⟨y, 2, none⟩ u2).setCell ⟨y, 3, none⟩ u3).cell? ⟨e, o + 2, none⟩ = some c' ∧ ((((w0.setCell ⟨y, 0, none⟩ u0).setCell ⟨y, 1, none⟩ u1).setCell ⟨y, 2, none⟩ u2).setCell ⟨y, 3, none⟩ u3).cell? ⟨e, o + 3, none⟩ = some d' := by
  have k : ∀ (w : World) i u z q, y ≠ z → (w.setCell ⟨y, i, none⟩ u).cell? ⟨z, q, none⟩ = w.cell? ⟨z, q, none⟩ := fun w i u z q hz => World.cell?_setCell_other w ⟨y, i, none⟩ ⟨z, q, none⟩ u (fun e => hz (congrArg Addr.block e))
  refine ⟨⟨?_, ?_, ?_, ?_⟩, ?_, ?_, ?_, ?_⟩
  · rw [k _ _ _ _ _ h1, k _ _ _ _ _ h1, k _ _ _ _ _ h1, k _ _ _ _ _ h1]; exact h.1.1
  · rw [k _ _ _ _ _ h1, k _ _ _ _ _ h1, k _ _ _ _ _ h1, k _ _ _ _ _ h1]; exact h.1.2.1
  · rw [k _ _ _ _ _ h1, k _ _ _ _ _ h1, k _ _ _ _ _ h1, k _ _ _ _ _ h1]; exact h.1.2.2.1
  · rw [k _ _ _ _ _ h1, k _ _ _ _ _ h1, k _ _ _ _ _ h1, k _ _ _ _ _ h1]; exact h.1.2.2.2
  · rw [k _ _ _ _ _ h2, k _ _ _ _ _ h2, k _ _ _ _ _ h2, k _ _ _ _ _ h2]; exact h.2.1
  · rw [k _ _ _ _ _ h2, k _ _ _ _ _ h2, k _ _ _ _ _ h2, k _ _ _ _ _ h2]; exact h.2.2.1
  · rw [k _ _ _ _ _ h2, k _ _ _ _ _ h2, k _ _ _ _ _ h2, k _ _ _ _ _ h2]; exact h.2.2.2.1
  · rw [k _ _ _ _ _ h2, k _ _ _ _ _ h2, k _ _ _ _ _ h2, k _ _ _ _ _ h2]; exact h.2.2.2.2
theorem two_setd {w0 : World} {x e o : Nat} {a b c d a' b' c' d' : Value} (h : (w0.drew.cell? ⟨x, 0, none⟩ = some a ∧ w0.drew.cell? ⟨x, 1, none⟩ = some b ∧ w0.drew.cell? ⟨x, 2, none⟩ = some c ∧ w0.drew.cell? ⟨x, 3, none⟩ = some d) ∧ w0.drew.cell? ⟨e, o, none⟩ = some a' ∧ w0.drew.cell? ⟨e, o + 1, none⟩ = some b' ∧ w0.drew.cell? ⟨e, o + 2, none⟩ = some c' ∧ w0.drew.cell? ⟨e, o + 3, none⟩ = some d') (y : Nat) (u0 u1 u2 u3 : Value) (h1 : y ≠ x) (h2 : y ≠ e) :
    (((((w0.setCell ⟨y, 0, none⟩ u0).setCell ⟨y, 1, none⟩ u1).setCell ⟨y, 2, none⟩ u2).setCell ⟨y, 3, none⟩ u3).drew.cell? ⟨x, 0, none⟩ = some a ∧ ((((w0.setCell ⟨y, 0, none⟩ u0).setCell ⟨y, 1, none⟩ u1).setCell ⟨y, 2, none⟩ u2).setCell ⟨y, 3, none⟩ u3).drew.cell? ⟨x, 1, none⟩ = some b ∧ ((((w0.setCell ⟨y, 0, none⟩ u0).setCell ⟨y, 1, none⟩ u1).setCell ⟨y, 2, none⟩ u2).setCell ⟨y, 3, none⟩ u3).drew.cell? ⟨x, 2, none⟩ = some c ∧ ((((w0.setCell ⟨y, 0, none⟩ u0).setCell ⟨y, 1, none⟩ u1).setCell ⟨y, 2, none⟩ u2).setCell ⟨y, 3, none⟩ u3).drew.cell? ⟨x, 3, none⟩ = some d) ∧ ((((w0.setCell ⟨y, 0, none⟩ u0).setCell ⟨y, 1, none⟩ u1).setCell ⟨y, 2, none⟩ u2).setCell ⟨y, 3, none⟩ u3).drew.cell? ⟨e, o, none⟩ = some a' ∧ ((((w0.setCell ⟨y, 0, none⟩ u0).setCell ⟨y, 1, none⟩ u1).setCell ⟨y, 2, none⟩ u2).setCell ⟨y, 3, none⟩ u3).drew.cell? ⟨e, o + 1, none⟩ = some b' ∧ ((((w0.setCell ⟨y, 0, none⟩ u0).setCell ⟨y, 1, none⟩ u1).setCell ⟨y, 2, none⟩ u2).setCell ⟨y, 3, none⟩ u3).drew.cell? ⟨e, o + 2, none⟩ = some c' ∧ ((((w0.setCell ⟨y, 0, none⟩ u0).setCell ⟨y, 1, none⟩ u1).setCell ⟨y, 2, none⟩ u2).setCell ⟨y, 3, none⟩ u3).drew.cell? ⟨e, o + 3, none⟩ = some d' := by
  have hdr : ∀ (w : World) (a : Addr), w.drew.cell? a = w.cell? a := fun _ _ => rfl
  simp only [hdr] at h ⊢
  exact two_set h y u0 u1 u2 u3 h1 h2
theorem raw_arg {d : Nat} {t : TermM} {m : Nat} (h : Raw d t) (hm : m < t.args.length) (hb : Bnd (t.args.getD m default)) : Raw d (t.args.getD m default) := by
  refine ⟨hb, ?_, ?_⟩
  · have h1 := h.2.1
    rw [← t.eta, bare_mk] at h1
    exact h1.2 _ (by rw [getD_at hm]; exact List.getElem_mem _)
  · have h1 := h.2.2
    have h2 := size_le_sizes hm
    have h3 := termro.size_eq t
    omega
theorem raw_sub {d d' : Nat} {t : TermM} (h : Raw d t) (hd : d ≤ d') : Raw d' t := ⟨h.1, h.2.1, Nat.le_trans h.2.2 (Nat.pow_le_pow_right (by omega) (by omega))⟩
/-- two drawn terms, their memory new -/
def TwoPost (w : World) (e : Ending) (w' : World) : Prop := ∃ (x t : TermM) (vx vt : Value), e = .returned (.tuple #[.agg #[.int .i64 x.op, .string (bstr x.name), .int .i64 x.sort, vx], .agg #[.int .i64 t.op, .string (bstr t.name), .int .i64 t.sort, vt]]) ∧ HasTs 3 w.heap.size w' vx x.args ∧ HasTs 3 w.heap.size w' vt t.args ∧ Raw 3 x ∧ Raw 3 t ∧ Below w.heap.size w w'
theorem two_fin {w w3 : World} {l : Nat} {x t : TermM} {vx vt : Value} {dx dt : Nat} (hl : w.heap.size + 2 ≤ l) (hx : HasTs dx l w3 vx x.args) (ht : HasTs dt l w3 vt t.args) (hdx : dx ≤ 3) (hdt : dt ≤ 3) (rx : Raw 3 x) (rt : Raw 3 t) (hb : Below w.heap.size w w3) (a0 a1 a2 a3 b0 b1 b2 b3 : Value) :
    TwoPost w (.returned (.tuple #[.agg #[.int .i64 x.op, .string (bstr x.name), .int .i64 x.sort, vx], .agg #[.int .i64 t.op, .string (bstr t.name), .int .i64 t.sort, vt]])) ((((((((w3.setCell ⟨w.heap.size, 0, none⟩ a0).setCell ⟨w.heap.size, 1, none⟩ a1).setCell ⟨w.heap.size, 2, none⟩ a2).setCell ⟨w.heap.size, 3, none⟩ a3).setCell ⟨w.heap.size + 1, 0, none⟩ b0).setCell ⟨w.heap.size + 1, 1, none⟩ b1).setCell ⟨w.heap.size + 1, 2, none⟩ b2).setCell ⟨w.heap.size + 1, 3, none⟩ b3).drew := by
  have k1 : ∀ (W : World) (i : Nat) (u : Value), Kept l W (W.setCell ⟨w.heap.size, i, none⟩ u) := fun W i u => Kept.set (by show w.heap.size < _; omega) u
  have k2 : ∀ (W : World) (i : Nat) (u : Value), Kept l W (W.setCell ⟨w.heap.size + 1, i, none⟩ u) := fun W i u => Kept.set (by show w.heap.size + 1 < _; omega) u
  have kd : ∀ W : World, Kept l W W.drew := fun W => ⟨Nat.le_refl _, fun _ _ _ => rfl⟩
  have kp := ((((((((k1 w3 0 a0).trans (k1 _ 1 a1)).trans (k1 _ 2 a2)).trans (k1 _ 3 a3)).trans (k2 _ 0 b0)).trans (k2 _ 1 b1)).trans (k2 _ 2 b2)).trans (k2 _ 3 b3)).trans (kd _)
  refine ⟨x, t, vx, vt, rfl, HasR.mono (RT_steady _) (HasR.kept (RT_steady _) (hx.up hdx) kp) (by omega), HasR.mono (RT_steady _) (HasR.kept (RT_steady _) (ht.up hdt) kp) (by omega), rx, rt, ?_⟩
  exact ((((((((hb.setCell (Nat.le_refl _) _).setCell (Nat.le_refl _) _).setCell (Nat.le_refl _) _).setCell (Nat.le_refl _) _).setCell (Nat.le_succ _) _).setCell (Nat.le_succ _) _).setCell (Nat.le_succ _) _).setCell (Nat.le_succ _) _).drew
theorem one_setd {w0 : World} {x : Nat} {a b c d : Value} (h : w0.cell? ⟨x, 0, none⟩ = some a ∧ w0.cell? ⟨x, 1, none⟩ = some b ∧ w0.cell? ⟨x, 2, none⟩ = some c ∧ w0.cell? ⟨x, 3, none⟩ = some d) (y : Nat) (u0 u1 u2 u3 : Value) (h1 : y ≠ x) :
    ((((w0.setCell ⟨y, 0, none⟩ u0).setCell ⟨y, 1, none⟩ u1).setCell ⟨y, 2, none⟩ u2).setCell ⟨y, 3, none⟩ u3).cell? ⟨x, 0, none⟩ = some a ∧ ((((w0.setCell ⟨y, 0, none⟩ u0).setCell ⟨y, 1, none⟩ u1).setCell ⟨y, 2, none⟩ u2).setCell ⟨y, 3, none⟩ u3).cell? ⟨x, 1, none⟩ = some b ∧ ((((w0.setCell ⟨y, 0, none⟩ u0).setCell ⟨y, 1, none⟩ u1).setCell ⟨y, 2, none⟩ u2).setCell ⟨y, 3, none⟩ u3).cell? ⟨x, 2, none⟩ = some c ∧ ((((w0.setCell ⟨y, 0, none⟩ u0).setCell ⟨y, 1, none⟩ u1).setCell ⟨y, 2, none⟩ u2).setCell ⟨y, 3, none⟩ u3).cell? ⟨x, 3, none⟩ = some d := by
  have k : ∀ (w : World) i u z q, y ≠ z → (w.setCell ⟨y, i, none⟩ u).cell? ⟨z, q, none⟩ = w.cell? ⟨z, q, none⟩ := fun w i u z q hz => World.cell?_setCell_other w ⟨y, i, none⟩ ⟨z, q, none⟩ u (fun e => hz (congrArg Addr.block e))
  refine ⟨?_, ?_, ?_, ?_⟩
  · rw [k _ _ _ _ _ h1, k _ _ _ _ _ h1, k _ _ _ _ _ h1, k _ _ _ _ _ h1]; exact h.1
  · rw [k _ _ _ _ _ h1, k _ _ _ _ _ h1, k _ _ _ _ _ h1, k _ _ _ _ _ h1]; exact h.2.1
  · rw [k _ _ _ _ _ h1, k _ _ _ _ _ h1, k _ _ _ _ _ h1, k _ _ _ _ _ h1]; exact h.2.2.1
  · rw [k _ _ _ _ _ h1, k _ _ _ _ _ h1, k _ _ _ _ _ h1, k _ _ _ _ _ h1]; exact h.2.2.2
theorem two_fin' {w w3 : World} {l : Nat} {x t : TermM} {vx vt : Value} {dx dt : Nat} (hl : w.heap.size + 2 ≤ l) (hx : HasTs dx l w3 vx x.args) (ht : HasTs dt l w3 vt t.args) (hdx : dx ≤ 3) (hdt : dt ≤ 3) (rx : Raw 3 x) (rt : Raw 3 t) (hb : Below w.heap.size w w3) (a0 a1 a2 a3 b0 b1 b2 b3 : Value) :
    TwoPost w (.returned (.tuple #[.agg #[.int .i64 x.op, .string (bstr x.name), .int .i64 x.sort, vx], .agg #[.int .i64 t.op, .string (bstr t.name), .int .i64 t.sort, vt]])) ((((((((w3.setCell ⟨w.heap.size, 0, none⟩ a0).setCell ⟨w.heap.size, 1, none⟩ a1).setCell ⟨w.heap.size, 2, none⟩ a2).setCell ⟨w.heap.size, 3, none⟩ a3).setCell ⟨w.heap.size + 1, 0, none⟩ b0).setCell ⟨w.heap.size + 1, 1, none⟩ b1).setCell ⟨w.heap.size + 1, 2, none⟩ b2).setCell ⟨w.heap.size + 1, 3, none⟩ b3) := by
  have k1 : ∀ (W : World) (i : Nat) (u : Value), Kept l W (W.setCell ⟨w.heap.size, i, none⟩ u) := fun W i u => Kept.set (by show w.heap.size < _; omega) u
  have k2 : ∀ (W : World) (i : Nat) (u : Value), Kept l W (W.setCell ⟨w.heap.size + 1, i, none⟩ u) := fun W i u => Kept.set (by show w.heap.size + 1 < _; omega) u
  have kp := (((((((k1 w3 0 a0).trans (k1 _ 1 a1)).trans (k1 _ 2 a2)).trans (k1 _ 3 a3)).trans (k2 _ 0 b0)).trans (k2 _ 1 b1)).trans (k2 _ 2 b2)).trans (k2 _ 3 b3)
  refine ⟨x, t, vx, vt, rfl, HasR.mono (RT_steady _) (HasR.kept (RT_steady _) (hx.up hdx) kp) (by omega), HasR.mono (RT_steady _) (HasR.kept (RT_steady _) (ht.up hdt) kp) (by omega), rx, rt, ?_⟩
  exact (((((((hb.setCell (Nat.le_refl _) _).setCell (Nat.le_refl _) _).setCell (Nat.le_refl _) _).setCell (Nat.le_refl _) _).setCell (Nat.le_succ _) _).setCell (Nat.le_succ _) _).setCell (Nat.le_succ _) _).setCell (Nat.le_succ _) _
set_option maxRecDepth 50000 in
set_option maxHeartbeats 8000000 in
theorem occDraw_any {n : Nat} {W0 : World} {v : Value} (hcode : draw.Code W0.heap.size W0 v n) (w : World) (hb : Below W0.heap.size W0 w) :
    Calls Try.prog 14 #[v] w (TwoPost w) := by
  have HON := Lib.hid (fun g m (h1 : 0 < m) (h2 : m ≤ 1000000000) W hW => once_any (g := g) hcode m h1 h2 W hW)
  have HBE := Lib.hid (fun g m (h1 : 0 < m) (h2 : m ≤ 1000000000) W hW => below_any (g := g) hcode m h1 h2 W hW)
  have HRA := Lib.hid (fun d (hd : d ≤ 20) g W hW => raw_all d hd _ n g W0 v hcode 7 (by omega) (by omega) W hW)
  have HNE := Lib.hid (fun W (h1 : Below w.heap.size w W) => new_any hcode W (hb.trans (h1.mono hb.size)) (Nat.le_trans hb.size h1.size))
  have hBw := hb.size
  obtain ⟨A, cap, rfl, _⟩ := hcode
  clear hb
  go_enter Try.func14, Try.ntmps14
  go_wp2_with fail
  have hb0 : Below w.heap.size w ((w.alloc (.cells #[.int .i64 0, .string { data := #[] }, .int .i64 0, .slice none 0 0] 26)).alloc (.cells #[.int .i64 0, .string { data := #[] }, .int .i64 0, .slice none 0 0] 26)) := ((Below.refl _ _).alloc (Nat.le_refl _) _).alloc (by simp) _
  refine (HNE.out _ hb0).mono ?_
  rintro e w1 ⟨g, rfl, hg1, hc1, hb1⟩
  have hz1 : w.heap.size + 2 ≤ w1.heap.size := by have := hb1.size; simp at this; omega
  have hgw : w.heap.size + 2 ≤ g := by simp at hg1; omega
  have HX1 : Hid (Box w1 w.heap.size (.int .i64 0) (.string { data := #[] }) (.int .i64 0) (.slice none 0 0) ∧ Box w1 (w.heap.size + 1) (.int .i64 0) (.string { data := #[] }) (.int .i64 0) (.slice none 0 0)) := Lib.hid ⟨box_below (box_below (heap_at _ _ _ rfl) ((Below.refl _ _).alloc (Nat.le_refl _) _)) hb1, box_below (heap_at _ _ _ (by simp)) hb1⟩
  have HC1 := Lib.hid hc1
  have HB1 : Hid (Below w.heap.size w w1) := Lib.hid (hb0.trans (hb1.mono hb0.size))
  clear hc1 hb1 hg1 hb0 HNE
  go_wp2_with fail
  refine (HRA.out 3 (by omega) g w1 HC1.out).mono ?_
  rintro e w2 ⟨t, va, rfl, hh, hr, hs2⟩
  obtain ⟨A2, c2, rfl, _⟩ := HasR.shape hh rfl
  have hgl := HC1.out.lt.2
  have HX2 : Hid (Box w2 w.heap.size (.int .i64 0) (.string { data := #[] }) (.int .i64 0) (.slice none 0 0) ∧ Box w2 (w.heap.size + 1) (.int .i64 0) (.string { data := #[] }) (.int .i64 0) (.slice none 0 0)) := Lib.hid ⟨step_blk hs2 HX1.out.1 (by omega), step_blk hs2 HX1.out.2 (by omega)⟩
  have HB2 : Hid (Below w.heap.size w w2) := Lib.hid (HB1.out.trans (hs2.below (by omega) (by omega)))
  have hz2 : w1.heap.size ≤ w2.heap.size := hs2.2.size
  have HT := Lib.hid (And.intro hh hr)
  have HS2 := Lib.hid hs2
  clear hh hr hs2 HX1 HB1
  go_wp2_with fail
  refine (HON.out g 2 (by omega) (by omega) _ (HS2.out.alloc _).1).mono ?_
  rintro e w3 ⟨y, rfl, hs3⟩
  have HX3 : Hid ((Box w3 w.heap.size (.int .i64 0) (.string { data := #[] }) (.int .i64 0) (.slice none 0 0) ∧ Box w3 (w.heap.size + 1) (.int .i64 0) (.string { data := #[] }) (.int .i64 0) (.slice none 0 0)) ∧ Box w3 w2.heap.size (.int .i64 t.op) (.string (bstr t.name)) (.int .i64 t.sort) (.slice A2 t.args.length c2)) :=
    Lib.hid ⟨⟨step_blk hs3 (box_below HX2.out.1 ((Below.refl _ _).alloc (Nat.le_refl _) _)) (by omega), step_blk hs3 (box_below HX2.out.2 ((Below.refl _ _).alloc (Nat.le_refl _) _)) (by omega)⟩, step_blk hs3 (heap_at _ _ _ rfl) (by omega)⟩
  have hz3 : w2.heap.size + 1 ≤ w3.heap.size := by have := hs3.2.size; simpa using this
  have HS3 : Hid (Step W0.heap.size W0 (.slice A n cap) n g w2 w3) := Lib.hid ((Step.refl HS2.out.1).alloc _ |>.trans hs3)
  have HG3 := Lib.hid hs3.2
  have hm30 : t.args.length ≤ 1024 := by
    have h1 := HT.out.2.2.2
    have h2 := termro.size_eq t
    have h3 := sizes_len t.args
    omega
  clear hs3 HX2
  obtain ⟨⟨b0, b1, b2, b3⟩, _⟩ := HX3.out.2.cells
  by_cases hy : y = true ∧ 0 < t.args.length
  · obtain ⟨rfl, hlen⟩ := hy
    obtain ⟨m, hm⟩ : ∃ m, t.args.length = m + 1 := ⟨t.args.length - 1, by omega⟩
    have hh3 : HasTs 3 w1.heap.size w3 (.slice A2 t.args.length c2) t.args := HasR.kept (RT_steady 3) HT.out.1 ((Kept.below ((Below.refl _ _).alloc (Nat.le_refl _) _) (Nat.le_refl _)).trans (Kept.grown (by have := HS3.out; exact HG3.out) hgl))
    obtain ⟨k4, ge, oe, A4, c4, hk4, rfl, hge1, hge2, x0, x1, x2, x3, hhx, hbx⟩ := term_at hh3 (j := m) (by omega)
    obtain rfl : k4 = 2 := by omega
    obtain ⟨x, hx⟩ : ∃ x, x = t.args.getD m default := ⟨_, rfl⟩
    rw [← hx] at x0 x1 x2 x3 hhx hbx
    rw [hm] at b3
    have HHX := Lib.hid (And.intro hhx hbx)
    have HXE := Lib.hid hx
    have HM := Lib.hid hm
    obtain ⟨⟨d0, d1, d2, d3⟩, g0, g1, g2, g3⟩ := HX3.out.1.1.cells
    obtain ⟨⟨e0, e1, e2, e3⟩, f0, f1, f2, f3⟩ := HX3.out.1.2.cells
    have i1 : (0 : Int) ≤ (m : Int) := by omega
    have i2 : (m : Int) < (m : Int) + 1 := by omega
    have i3 : IntKind.i64.wrap ((m : Int) + 1 - 1) = (m : Int) := by rw [IntWalk.i64_in _ (by omega)]; omega
    have i4 : IntKind.i64.wrap (m : Int) = (m : Int) := IntWalk.i64_in _ (by omega)
    have n1 : ¬ w.heap.size = w.heap.size + 1 := by omega
    have HTT := Lib.hid hh3
    rw [hm] at HTT
    have HRX : Hid (Raw 3 x) := Lib.hid (raw_sub (d := 3) (by rw [hx]; exact raw_arg HT.out.2 (by omega) (by rw [← hx]; exact hbx)) (Nat.le_refl _))
    have HB3 : Hid (Below w.heap.size w w3) := Lib.hid (HB2.out.trans (HS3.out.below (by omega) (by omega)))
    clear hhx hbx hx hh3
    rw [hm]
    clear hm
    go_wp2_with fail
    refine wp_region_noPanic ?_
    refine wp_region_held_drew (S := (fun w' => (w'.cell? ⟨w2.heap.size, 0, none⟩ = some (.int .i64 t.op) ∧ w'.cell? ⟨w2.heap.size, 1, none⟩ = some (.string (bstr t.name)) ∧ w'.cell? ⟨w2.heap.size, 2, none⟩ = some (.int .i64 t.sort) ∧ w'.cell? ⟨w2.heap.size, 3, none⟩ = some (.slice (some ⟨ge, oe, none⟩) (m + 1) c2)) ∧ w'.cell? ⟨ge, oe + m * 4, none⟩ = some (.int .i64 x.op) ∧ w'.cell? ⟨ge, oe + m * 4 + 1, none⟩ = some (.string (bstr x.name)) ∧ w'.cell? ⟨ge, oe + m * 4 + 2, none⟩ = some (.int .i64 x.sort) ∧ w'.cell? ⟨ge, oe + m * 4 + 3, none⟩ = some (.slice A4 x.args.length c4))) (by kernel_rfl) ?_ (fun hHd0 => ?_)
    · refine ⟨⟨?_, ?_, ?_, ?_⟩, ?_, ?_, ?_, ?_⟩ <;> assumption
    refine wpAnyH_take (i := 0) (v := ?_) rfl (by kernel_rfl) (by kernel_rfl) (by kernel_rfl) (fun _ _ _ h => h) (Or.inl ⟨by rfl, ?_⟩) (by with_reducible assumption) ?_
    rotate_left
    · intro w hSw; (try dsimp only at hSw); go_simp <;> with_reducible rfl
    (try simp only [Act.put]); (try simp only [List.setIfInBounds_toArray]); (try simp only [List.set_cons_succ, List.set_cons_zero])
    refine wpAnyH_take (i := 1) (v := ?_) rfl (by kernel_rfl) (by kernel_rfl) (by kernel_rfl) (fun _ _ _ h => h) (Or.inl ⟨by rfl, ?_⟩) (by with_reducible assumption) ?_
    rotate_left
    · intro w hSw; (try dsimp only at hSw); go_simp <;> with_reducible rfl
    (try simp only [Act.put]); (try simp only [List.setIfInBounds_toArray]); (try simp only [List.set_cons_succ, List.set_cons_zero])
    refine wpAnyH_take (i := 2) (v := ?_) rfl (by kernel_rfl) (by kernel_rfl) (by kernel_rfl) (fun _ _ _ h => h) (Or.inl ⟨by rfl, ?_⟩) (by with_reducible assumption) ?_
    rotate_left
    · intro w hSw; (try dsimp only at hSw); go_simp <;> with_reducible rfl
    (try simp only [Act.put]); (try simp only [List.setIfInBounds_toArray]); (try simp only [List.set_cons_succ, List.set_cons_zero])
    refine wpAnyH_take (i := 3) (v := ?_) rfl (by kernel_rfl) (by kernel_rfl) (by kernel_rfl) (fun _ _ _ h => h) (Or.inl ⟨by rfl, ?_⟩) (by with_reducible assumption) ?_
    rotate_left
    · intro w hSw; (try dsimp only at hSw); go_simp <;> with_reducible rfl
    (try simp only [Act.put]); (try simp only [List.setIfInBounds_toArray]); (try simp only [List.set_cons_succ, List.set_cons_zero])
    refine wpAnyH_take (i := 4) (v := ?_) rfl (by kernel_rfl) (by kernel_rfl) (by kernel_rfl) (fun _ _ _ h => h) (Or.inl ⟨by rfl, ?_⟩) (by with_reducible assumption) ?_
    rotate_left
    · intro w hSw; (try dsimp only at hSw); go_simp <;> with_reducible rfl
    (try simp only [Act.put]); (try simp only [List.setIfInBounds_toArray]); (try simp only [List.set_cons_succ, List.set_cons_zero])
    refine wpAnyH_take (i := 5) (v := ?_) rfl (by kernel_rfl) (by kernel_rfl) (by kernel_rfl) (fun _ _ _ h => h) (Or.inl ⟨by rfl, ?_⟩) (by with_reducible assumption) ?_
    rotate_left
    · intro w hSw; (try dsimp only at hSw); go_simp <;> with_reducible rfl
    (try simp only [Act.put]); (try simp only [List.setIfInBounds_toArray]); (try simp only [List.set_cons_succ, List.set_cons_zero])
    refine wpAnyH_take (i := 6) (v := ?_) rfl (by kernel_rfl) (by kernel_rfl) (by kernel_rfl) (fun _ _ _ h => h) (Or.inl ⟨by rfl, ?_⟩) (by with_reducible assumption) ?_
    rotate_left
    · intro w hSw; (try dsimp only at hSw); go_simp <;> with_reducible rfl
    (try simp only [Act.put]); (try simp only [List.setIfInBounds_toArray]); (try simp only [List.set_cons_succ, List.set_cons_zero])
    refine wpAnyH_take (i := 7) (v := ?_) rfl (by kernel_rfl) (by kernel_rfl) (by kernel_rfl) (fun _ _ _ h => h) (Or.inl ⟨by rfl, ?_⟩) (by with_reducible assumption) ?_
    rotate_left
    · intro w hSw; (try dsimp only at hSw); go_simp <;> with_reducible rfl
    (try simp only [Act.put]); (try simp only [List.setIfInBounds_toArray]); (try simp only [List.set_cons_succ, List.set_cons_zero])
    refine wpAnyH_take (i := 8) (v := ?_) rfl (by kernel_rfl) (by kernel_rfl) (by kernel_rfl) (fun _ _ _ h => h) (Or.inl ⟨by rfl, ?_⟩) (by with_reducible assumption) ?_
    rotate_left
    · intro w hSw; (try dsimp only at hSw); go_simp <;> with_reducible rfl
    (try simp only [Act.put]); (try simp only [List.setIfInBounds_toArray]); (try simp only [List.set_cons_succ, List.set_cons_zero])
    refine wpAnyH_ready (rs := [9]) (by kernel_rfl) (by simp) ?_
    refine AllReadyH.cons (o := _) rfl (fun K hK => ?_) ?_
    · go_simp
      refine hK.out _ _ ?_ (fun hHd1 => ?_)
      · (try dsimp only); ((with_reducible refine two_setd ?_ _ _ _ _ _ ?_ ?_); (with_reducible assumption); omega; omega)
      clear hK K hHd0
      (try simp only [Act.put]); (try simp only [List.setIfInBounds_toArray]); (try simp only [List.set_cons_succ, List.set_cons_zero])
      refine wpAnyH_ready (rs := [10]) (by kernel_rfl) (by simp) ?_
      refine AllReadyH.cons (o := _) rfl (fun K hK => ?_) ?_
      · go_simp
        refine hK.out _ _ ?_ (fun hHd2 => ?_)
        · (try dsimp only); ((with_reducible refine two_setd ?_ _ _ _ _ _ ?_ ?_); (with_reducible assumption); omega; omega)
        clear hK K hHd1
        (try simp only [Act.put]); (try simp only [List.setIfInBounds_toArray]); (try simp only [List.set_cons_succ, List.set_cons_zero])
        refine wpAnyH_done (by kernel_rfl) ?_ _
        refine NoPanic.normal ?_
        have D0 := d0
        have D1 := d1
        have D2 := d2
        have D3 := d3
        have E0 := e0
        have E1 := e1
        have E2 := e2
        have E3 := e3
        go_wp2
        refine bodyPost_ret (v := .tuple #[.agg #[.int .i64 x.op, .string (bstr x.name), .int .i64 x.sort, .slice A4 x.args.length c4], .agg #[.int .i64 t.op, .string (bstr t.name), .int .i64 t.sort, .slice (some ⟨ge, oe, none⟩) (m + 1) c2]]) (by simp [results, Try.results14, go_sem, D0, D1, D2, D3, E0, E1, E2, E3]) rfl ?_
        exact two_fin hz1 HHX.out.1 HTT.out (by omega) (by omega) HRX.out HT.out.2 HB3.out _ _ _ _ _ _ _ _
      exact AllReadyH.nil
    exact AllReadyH.nil
  · have n1 : ¬ w.heap.size = w.heap.size + 1 := by omega
    have HCd : Hid (Cur W0.heap.size W0 (.slice A n cap) n g w3.drew) := Lib.hid (HS3.out.1.keep (Below.refl _ _).drew (by omega))
    cases y with
    | false =>
      clear hy
      go_wp2_with fail
      refine wp_region_noPanic ?_
      refine wp_region_held_drew (S := (fun w' => w'.cell? ⟨w2.heap.size, 0, none⟩ = some (.int .i64 t.op) ∧ w'.cell? ⟨w2.heap.size, 1, none⟩ = some (.string (bstr t.name)) ∧ w'.cell? ⟨w2.heap.size, 2, none⟩ = some (.int .i64 t.sort) ∧ w'.cell? ⟨w2.heap.size, 3, none⟩ = some (.slice A2 t.args.length c2))) (by kernel_rfl) ?_ (fun hHd0 => ?_)
      · refine ⟨?_, ?_, ?_, ?_⟩ <;> assumption
      refine wpAnyH_take (i := 0) (v := ?_) rfl (by kernel_rfl) (by kernel_rfl) (by kernel_rfl) (fun _ _ _ h => h) (Or.inl ⟨by rfl, ?_⟩) (by with_reducible assumption) ?_
      rotate_left
      · intro w hSw; (try dsimp only at hSw); go_simp <;> with_reducible rfl
      (try simp only [Act.put]); (try simp only [List.setIfInBounds_toArray]); (try simp only [List.set_cons_succ, List.set_cons_zero])
      refine wpAnyH_take (i := 1) (v := ?_) rfl (by kernel_rfl) (by kernel_rfl) (by kernel_rfl) (fun _ _ _ h => h) (Or.inl ⟨by rfl, ?_⟩) (by with_reducible assumption) ?_
      rotate_left
      · intro w hSw; (try dsimp only at hSw); go_simp <;> with_reducible rfl
      (try simp only [Act.put]); (try simp only [List.setIfInBounds_toArray]); (try simp only [List.set_cons_succ, List.set_cons_zero])
      refine wpAnyH_take (i := 4) (v := ?_) rfl (by kernel_rfl) (by kernel_rfl) (by kernel_rfl) (fun _ _ _ h => h) (Or.inl ⟨by rfl, ?_⟩) (by with_reducible assumption) ?_
      rotate_left
      · intro w hSw; (try dsimp only at hSw); go_simp <;> with_reducible rfl
      (try simp only [Act.put]); (try simp only [List.setIfInBounds_toArray]); (try simp only [List.set_cons_succ, List.set_cons_zero])
      refine wpAnyH_ready (rs := [2]) (by kernel_rfl) (by simp) ?_
      refine AllReadyH.cons (o := _) rfl (fun K hK => ?_) ?_
      · (go_simp; (with_reducible refine (HBE.out g 2 (by omega) (by omega) _ HCd.out).mono ?_); rintro e w4 ⟨z, rfl, hza, hzb, hs4⟩; obtain ⟨zn, rfl⟩ : ∃ zn : Nat, z = zn := ⟨z.toNat, by omega⟩; have HS4 := Lib.hid hs4; have HC4 : Hid (Cur W0.heap.size W0 (.slice A n cap) n g w4) := Lib.hid hs4.1; have hz4 : w3.heap.size ≤ w4.heap.size := hs4.2.size; have hS4 := (box_grown (box_below HX3.out.2 (Below.refl _ _).drew) hs4.2 (by omega)).cells.1; clear hs4; (try dsimp only))
        refine hK.out _ _ ?_ (fun hHd1 => ?_)
        · (try dsimp only); first | (with_reducible assumption) | ((with_reducible refine one_setd ?_ _ _ _ _ _ ?_); (with_reducible assumption); omega)
        clear hK K hHd0
        (try simp only [Act.put]); (try simp only [List.setIfInBounds_toArray]); (try simp only [List.set_cons_succ, List.set_cons_zero])
        refine wpAnyH_ready (rs := [3]) (by kernel_rfl) (by simp) ?_
        refine AllReadyH.cons (o := _) rfl (fun K hK => ?_) ?_
        · (go_simp; (with_reducible refine (HRA.out zn (by omega) g w4 HC4.out).mono ?_); rintro e w5 ⟨x, vx, rfl, hhx, hrx, hs5⟩; obtain ⟨A5, c5, rfl, _⟩ := HasR.shape hhx rfl; have HHX := Lib.hid (And.intro hhx hrx); have HS5 := Lib.hid hs5; have hS5 := (box_grown (box_grown (box_below HX3.out.2 (Below.refl _ _).drew) HS4.out.2 (by omega)) hs5.2 (by omega)).cells.1; obtain ⟨⟨d0, d1, d2, d3⟩, g0, g1, g2, g3⟩ := (box_grown (box_grown (box_below HX3.out.1.1 (Below.refl _ _).drew) HS4.out.2 (by omega)) hs5.2 (by omega)).cells; obtain ⟨⟨e0, e1, e2, e3⟩, f0, f1, f2, f3⟩ := (box_grown (box_grown (box_below HX3.out.1.2 (Below.refl _ _).drew) HS4.out.2 (by omega)) hs5.2 (by omega)).cells; clear hhx hrx hs5; (try dsimp only))
          refine hK.out _ _ ?_ (fun hHd2 => ?_)
          · (try dsimp only); first | (with_reducible assumption) | ((with_reducible refine one_setd ?_ _ _ _ _ _ ?_); (with_reducible assumption); omega)
          clear hK K hHd1
          (try simp only [Act.put]); (try simp only [List.setIfInBounds_toArray]); (try simp only [List.set_cons_succ, List.set_cons_zero])
          refine wpAnyH_ready (rs := [5]) (by kernel_rfl) (by simp) ?_
          refine AllReadyH.cons (o := _) rfl (fun K hK => ?_) ?_
          · go_simp
            refine hK.out _ _ ?_ (fun hHd3 => ?_)
            · (try dsimp only); first | (with_reducible assumption) | ((with_reducible refine one_setd ?_ _ _ _ _ _ ?_); (with_reducible assumption); omega)
            clear hK K hHd2
            (try simp only [Act.put]); (try simp only [List.setIfInBounds_toArray]); (try simp only [List.set_cons_succ, List.set_cons_zero])
            refine wpAnyH_ready (rs := [6]) (by kernel_rfl) (by simp) ?_
            refine AllReadyH.cons (o := _) rfl (fun K hK => ?_) ?_
            · go_simp
              refine hK.out _ _ ?_ (fun hHd4 => ?_)
              · (try dsimp only); first | (with_reducible assumption) | ((with_reducible refine one_setd ?_ _ _ _ _ _ ?_); (with_reducible assumption); omega)
              clear hK K hHd3
              (try simp only [Act.put]); (try simp only [List.setIfInBounds_toArray]); (try simp only [List.set_cons_succ, List.set_cons_zero])
              refine wpAnyH_done (by kernel_rfl) ?_ _
              refine NoPanic.normal ?_
              have D0 := d0
              have D1 := d1
              have D2 := d2
              have D3 := d3
              have E0 := e0
              have E1 := e1
              have E2 := e2
              have E3 := e3
              have HQ : Hid (HasTs 3 w1.heap.size w5 (.slice A2 t.args.length c2) t.args ∧ HasTs zn w1.heap.size w5 (.slice A5 x.args.length c5) x.args ∧ Below w.heap.size w w5) := Lib.hid ⟨HasR.kept (RT_steady 3) HT.out.1 (((((Kept.below ((Below.refl _ _).alloc (Nat.le_refl _) _) (Nat.le_refl _)).trans (Kept.grown HG3.out hgl)).trans (Kept.below (Below.refl _ _).drew (Nat.le_refl _))).trans (Kept.grown HS4.out.2 hgl)).trans (Kept.grown HS5.out.2 hgl)), HasR.mono (RT_steady _) HHX.out.1 (by omega),
                (((HB2.out.trans (HS3.out.below (by omega) (by omega))).trans ((Below.refl _ _).drew)).trans (HS4.out.below (by omega) (by show _ ≤ w3.heap.size; omega))).trans (HS5.out.below (by omega) (by omega))⟩
              go_wp2
              refine bodyPost_ret (v := .tuple #[.agg #[.int .i64 x.op, .string (bstr x.name), .int .i64 x.sort, .slice A5 x.args.length c5], .agg #[.int .i64 t.op, .string (bstr t.name), .int .i64 t.sort, .slice A2 t.args.length c2]]) (by simp [results, Try.results14, go_sem, D0, D1, D2, D3, E0, E1, E2, E3]) rfl ?_
              exact two_fin' hz1 HQ.out.2.1 HQ.out.1 (by omega) (by omega) (raw_sub HHX.out.2 (by omega)) HT.out.2 HQ.out.2.2 _ _ _ _ _ _ _ _
            exact AllReadyH.nil
          exact AllReadyH.nil
        exact AllReadyH.nil
      exact AllReadyH.nil
    | true =>
      have hl0 : t.args.length = 0 := by
        by_cases h : 0 < t.args.length
        · exact absurd ⟨rfl, h⟩ hy
        · omega
      have l1 : decide ((0 : Int) < (t.args.length : Int)) = false := decide_eq_false (by omega)
      have l2 : decide (0 < t.args.length) = false := decide_eq_false (by omega)
      clear hy hl0
      go_wp2_with fail
      refine wp_region_noPanic ?_
      refine wp_region_held_drew (S := (fun w' => w'.cell? ⟨w2.heap.size, 0, none⟩ = some (.int .i64 t.op) ∧ w'.cell? ⟨w2.heap.size, 1, none⟩ = some (.string (bstr t.name)) ∧ w'.cell? ⟨w2.heap.size, 2, none⟩ = some (.int .i64 t.sort) ∧ w'.cell? ⟨w2.heap.size, 3, none⟩ = some (.slice A2 t.args.length c2))) (by kernel_rfl) ?_ (fun hHd0 => ?_)
      · refine ⟨?_, ?_, ?_, ?_⟩ <;> assumption
      refine wpAnyH_take (i := 0) (v := ?_) rfl (by kernel_rfl) (by kernel_rfl) (by kernel_rfl) (fun _ _ _ h => h) (Or.inl ⟨by rfl, ?_⟩) (by with_reducible assumption) ?_
      rotate_left
      · intro w hSw; (try dsimp only at hSw); go_simp <;> with_reducible rfl
      (try simp only [Act.put]); (try simp only [List.setIfInBounds_toArray]); (try simp only [List.set_cons_succ, List.set_cons_zero])
      refine wpAnyH_take (i := 1) (v := ?_) rfl (by kernel_rfl) (by kernel_rfl) (by kernel_rfl) (fun _ _ _ h => h) (Or.inl ⟨by rfl, ?_⟩) (by with_reducible assumption) ?_
      rotate_left
      · intro w hSw; (try dsimp only at hSw); go_simp <;> with_reducible rfl
      (try simp only [Act.put]); (try simp only [List.setIfInBounds_toArray]); (try simp only [List.set_cons_succ, List.set_cons_zero])
      refine wpAnyH_take (i := 4) (v := ?_) rfl (by kernel_rfl) (by kernel_rfl) (by kernel_rfl) (fun _ _ _ h => h) (Or.inl ⟨by rfl, ?_⟩) (by with_reducible assumption) ?_
      rotate_left
      · intro w hSw; (try dsimp only at hSw); go_simp <;> with_reducible rfl
      (try simp only [Act.put]); (try simp only [List.setIfInBounds_toArray]); (try simp only [List.set_cons_succ, List.set_cons_zero])
      refine wpAnyH_ready (rs := [2]) (by kernel_rfl) (by simp) ?_
      refine AllReadyH.cons (o := _) rfl (fun K hK => ?_) ?_
      · (go_simp; (with_reducible refine (HBE.out g 2 (by omega) (by omega) _ HCd.out).mono ?_); rintro e w4 ⟨z, rfl, hza, hzb, hs4⟩; obtain ⟨zn, rfl⟩ : ∃ zn : Nat, z = zn := ⟨z.toNat, by omega⟩; have HS4 := Lib.hid hs4; have HC4 : Hid (Cur W0.heap.size W0 (.slice A n cap) n g w4) := Lib.hid hs4.1; have hz4 : w3.heap.size ≤ w4.heap.size := hs4.2.size; have hS4 := (box_grown (box_below HX3.out.2 (Below.refl _ _).drew) hs4.2 (by omega)).cells.1; clear hs4; (try dsimp only))
        refine hK.out _ _ ?_ (fun hHd1 => ?_)
        · (try dsimp only); first | (with_reducible assumption) | ((with_reducible refine one_setd ?_ _ _ _ _ _ ?_); (with_reducible assumption); omega)
        clear hK K hHd0
        (try simp only [Act.put]); (try simp only [List.setIfInBounds_toArray]); (try simp only [List.set_cons_succ, List.set_cons_zero])
        refine wpAnyH_ready (rs := [3]) (by kernel_rfl) (by simp) ?_
        refine AllReadyH.cons (o := _) rfl (fun K hK => ?_) ?_
        · (go_simp; (with_reducible refine (HRA.out zn (by omega) g w4 HC4.out).mono ?_); rintro e w5 ⟨x, vx, rfl, hhx, hrx, hs5⟩; obtain ⟨A5, c5, rfl, _⟩ := HasR.shape hhx rfl; have HHX := Lib.hid (And.intro hhx hrx); have HS5 := Lib.hid hs5; have hS5 := (box_grown (box_grown (box_below HX3.out.2 (Below.refl _ _).drew) HS4.out.2 (by omega)) hs5.2 (by omega)).cells.1; obtain ⟨⟨d0, d1, d2, d3⟩, g0, g1, g2, g3⟩ := (box_grown (box_grown (box_below HX3.out.1.1 (Below.refl _ _).drew) HS4.out.2 (by omega)) hs5.2 (by omega)).cells; obtain ⟨⟨e0, e1, e2, e3⟩, f0, f1, f2, f3⟩ := (box_grown (box_grown (box_below HX3.out.1.2 (Below.refl _ _).drew) HS4.out.2 (by omega)) hs5.2 (by omega)).cells; clear hhx hrx hs5; (try dsimp only))
          refine hK.out _ _ ?_ (fun hHd2 => ?_)
          · (try dsimp only); first | (with_reducible assumption) | ((with_reducible refine one_setd ?_ _ _ _ _ _ ?_); (with_reducible assumption); omega)
          clear hK K hHd1
          (try simp only [Act.put]); (try simp only [List.setIfInBounds_toArray]); (try simp only [List.set_cons_succ, List.set_cons_zero])
          refine wpAnyH_ready (rs := [5]) (by kernel_rfl) (by simp) ?_
          refine AllReadyH.cons (o := _) rfl (fun K hK => ?_) ?_
          · go_simp
            refine hK.out _ _ ?_ (fun hHd3 => ?_)
            · (try dsimp only); first | (with_reducible assumption) | ((with_reducible refine one_setd ?_ _ _ _ _ _ ?_); (with_reducible assumption); omega)
            clear hK K hHd2
            (try simp only [Act.put]); (try simp only [List.setIfInBounds_toArray]); (try simp only [List.set_cons_succ, List.set_cons_zero])
            refine wpAnyH_ready (rs := [6]) (by kernel_rfl) (by simp) ?_
            refine AllReadyH.cons (o := _) rfl (fun K hK => ?_) ?_
            · go_simp
              refine hK.out _ _ ?_ (fun hHd4 => ?_)
              · (try dsimp only); first | (with_reducible assumption) | ((with_reducible refine one_setd ?_ _ _ _ _ _ ?_); (with_reducible assumption); omega)
              clear hK K hHd3
              (try simp only [Act.put]); (try simp only [List.setIfInBounds_toArray]); (try simp only [List.set_cons_succ, List.set_cons_zero])
              refine wpAnyH_done (by kernel_rfl) ?_ _
              refine NoPanic.normal ?_
              have D0 := d0
              have D1 := d1
              have D2 := d2
              have D3 := d3
              have E0 := e0
              have E1 := e1
              have E2 := e2
              have E3 := e3
              have HQ : Hid (HasTs 3 w1.heap.size w5 (.slice A2 t.args.length c2) t.args ∧ HasTs zn w1.heap.size w5 (.slice A5 x.args.length c5) x.args ∧ Below w.heap.size w w5) := Lib.hid ⟨HasR.kept (RT_steady 3) HT.out.1 (((((Kept.below ((Below.refl _ _).alloc (Nat.le_refl _) _) (Nat.le_refl _)).trans (Kept.grown HG3.out hgl)).trans (Kept.below (Below.refl _ _).drew (Nat.le_refl _))).trans (Kept.grown HS4.out.2 hgl)).trans (Kept.grown HS5.out.2 hgl)), HasR.mono (RT_steady _) HHX.out.1 (by omega),
                (((HB2.out.trans (HS3.out.below (by omega) (by omega))).trans ((Below.refl _ _).drew)).trans (HS4.out.below (by omega) (by show _ ≤ w3.heap.size; omega))).trans (HS5.out.below (by omega) (by omega))⟩
              go_wp2
              refine bodyPost_ret (v := .tuple #[.agg #[.int .i64 x.op, .string (bstr x.name), .int .i64 x.sort, .slice A5 x.args.length c5], .agg #[.int .i64 t.op, .string (bstr t.name), .int .i64 t.sort, .slice A2 t.args.length c2]]) (by simp [results, Try.results14, go_sem, D0, D1, D2, D3, E0, E1, E2, E3]) rfl ?_
              exact two_fin' hz1 HQ.out.2.1 HQ.out.1 (by omega) (by omega) (raw_sub HHX.out.2 (by omega)) HT.out.2 HQ.out.2.2 _ _ _ _ _ _ _ _
            exact AllReadyH.nil
          exact AllReadyH.nil
        exact AllReadyH.nil
      exact AllReadyH.nil
end Go.Proofs.Ytejmfiocdecigaa.drawv
