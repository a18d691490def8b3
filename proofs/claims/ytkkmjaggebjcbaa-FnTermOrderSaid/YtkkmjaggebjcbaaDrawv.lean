/-
  THE DRAW OF TWO TERMS FOR OccursIn.
-/
import Derived.Test.YtkkmjaggebjcbaaDrawt
namespace Go.Proofs.Ytkkmjaggebjcbaa.drawv
open Go.ChangeShapes Go.WideShapes Go.ChangeAt Go.RowKit
open mem rowl trm trmv terml termb termt termu draw drawm termvx drawt

theorem two_set {w0 : World} {x e o : Nat} {a b c d a' b' c' d' : Value} (h : (w0.cell? ⟨x, 0, none⟩ = some a ∧ w0.cell? ⟨x, 1, none⟩ = some b ∧ w0.cell? ⟨x, 2, none⟩ = some c ∧ w0.cell? ⟨x, 3, none⟩ = some d) ∧ w0.cell? ⟨e, o, none⟩ = some a' ∧ w0.cell? ⟨e, o + 1, none⟩ = some b' ∧ w0.cell? ⟨e, o + 2, none⟩ = some c' ∧ w0.cell? ⟨e, o + 3, none⟩ = some d') (y : Nat) (u0 u1 u2 u3 : Value) (h1 : y ≠ x) (h2 : y ≠ e) :
    (((((w0.setCell ⟨y, 0, none⟩ u0).setCell ⟨y, 1, none⟩ u1).setCell ⟨y, 2, none⟩ u2).setCell ⟨y, 3, none⟩ u3).cell? ⟨x, 0, none⟩ = some a ∧ ((((w0.setCell ⟨y, 0, none⟩ u0).setCell ⟨y, 1, none⟩ u1).setCell ⟨y, 2, none⟩ u2).setCell ⟨y, 3, none⟩ u3).cell? ⟨x, 1, none⟩ = some b ∧ ((((w0.setCell ⟨y, 0, none⟩ u0).setCell ⟨y, 1, none⟩ u1).setCell ⟨y, 2, none⟩ u2).setCell ⟨y, 3, none⟩ u3).cell? ⟨x, 2, none⟩ = some c ∧ ((((w0.setCell ⟨y, 0, none⟩ u0).setCell ⟨y, 1, none⟩ u1).setCell ⟨y, 2, none⟩ u2).setCell ⟨y, 3, none⟩ u3).cell? ⟨x, 3, none⟩ = some d) ∧ ((((w0.setCell ⟨y, 0, none⟩ u0).setCell ⟨y, 1, none⟩ u1).setCell ⟨y, 2, none⟩ u2).setCell ⟨y, 3, none⟩ u3).cell? ⟨e, o, none⟩ = some a' ∧ ((((w0.setCell ⟨y, 0, none⟩ u0).setCell ⟨y, 1, none⟩ u1).setCell ⟨y, 2, none⟩ u2).setCell ⟨y, 3, none⟩ u3).cell? ⟨e, o + 1, none⟩ = some b' ∧ ((((w0.setCell ⟨y, 0, none⟩ u0).setCell ⟨y, 1, none⟩ u1).setCell ⟨y, 2, none⟩ u2).setCell ⟨y, 3, none⟩ u3).cell? ⟨e, o + 2, none⟩ = some c' ∧ ((((w0.setCell ⟨y, 0, none⟩ u0).setCell ⟨y, 1, none⟩ u1).setCell ⟨y, 2, none⟩ u2).setCell ⟨y, 3, none⟩ u3).cell? ⟨e, o + 3, none⟩ = some d' := by
  have k : ∀ (w : World) i u z q, y ≠ z → (w.setCell ⟨y, i, none⟩ u).cell? ⟨z, q, none⟩ = w.cell? ⟨z, q, none⟩ := fun w i u z q hz => World.cell?_setCell_other w ⟨y, i, none⟩ ⟨z, q, none⟩ u (fun e => hz (congrArg Addr.block e))
  refine ⟨⟨?_, ?_, ?_, ?_⟩, ?_, ?_, ?_, ?_⟩
  · rw [k _ _ _ _ _ h1, k _ _ _ _ _ h1, k _ _ _ _ _ h1, k _ _ _ _ _ h1]; exact h.1.1
  · rw [k _ _ _ _ _ h1, k _ _ _ _ _ h1, k _ _ _ _ _ h1, k _ _ _ _ _ h1]; exact h.1.2.1
  · rw [k _ _ _ _ _ h1, k _ _ _ _ _ h1, k _ _ _ _ _ h1, k _ _ _ _ _ h1]; exact h.1.2.2.1
  · rw [k _ _ _ _ _ h1, k _ _ _ _ _ h1, k _ _ _ _ _ h1, k _ _ _ _ _ h1]; exact h.1.2.2.2
  · rw [k _ _ _ _ _ h2, k _ _ _ _ _ h2, k _ _ _ _ _ h2, k _ _ _ _ _ h2]; exact h.2.1
  · rw [k _ _ _ _ _ h2, k _ _ _ _ _ h2, k _ _ _ _ _ h2, k _ _ _ _ _ h2]; exact h.2.2.1
  · rw [k _ _ _ _ _ h2, k _ _ _ _ _ h2, k _ _ _ _ _ h2, k _ _ _ _ _ h2]; exact h.2.2.2.1
  · rw [k _ _ _ _ _ h2, k _ _ _ _ _ h2, k _ _ _ _ _ h2, k _ _ _ _ _ h2]; exact h.2.2.2.2
theorem two_setd {w0 : World} {x e o : Nat} {a b c d a' b' c' d' : Value} (h : (w0.drew.cell? ⟨x, 0, none⟩ = some a ∧ w0.drew.cell? ⟨x, 1, none⟩ = some b ∧ w0.drew.cell? ⟨x, 2, none⟩ = some c ∧ w0.drew.cell? ⟨x, 3, none⟩ = some d) ∧ w0.drew.cell? ⟨e, o, none⟩ = some a' ∧ w0.drew.cell? ⟨e, o + 1, none⟩ = some b' ∧ w0.drew.cell? ⟨e, o + 2, none⟩ = some c' ∧ w0.drew.cell? ⟨e, o + 3, none⟩ = some d') (y : Nat) (u0 u1 u2 u3 : Value) (h1 : y ≠ x) (h2 : y ≠ e) :
    (((((w0.setCell ⟨y, 0, none⟩ u0).setCell ⟨y, 1, none⟩ u1).setCell ⟨y, 2, none⟩ u2).setCell ⟨y, 3, none⟩ u3).drew.cell? ⟨x, 0, none⟩ = some a ∧ ((((w0.setCell ⟨y, 0, none⟩ u0).setCell ⟨y, 1, none⟩ u1).setCell ⟨y, 2, none⟩ u2).setCell ⟨y, 3, none⟩ u3).drew.cell? ⟨x, 1, none⟩ = some b ∧ ((((w0.setCell ⟨y, 0, none⟩ u0).setCell ⟨y, 1, none⟩ u1).setCell ⟨y, 2, none⟩ u2).setCell ⟨y, 3, none⟩ u3).drew.cell? ⟨x, 2, none⟩ = some c ∧ ((((w0.setCell ⟨y, 0, none⟩ u0).setCell ⟨y, 1, none⟩ u1).setCell ⟨y, 2, none⟩ u2).setCell ⟨y, 3, none⟩ u3).drew.cell? ⟨x, 3, none⟩ = some d) ∧ ((((w0.setCell ⟨y, 0, none⟩ u0).setCell ⟨y, 1, none⟩ u1).setCell ⟨y, 2, none⟩ u2).setCell ⟨y, 3, none⟩ u3).drew.cell? ⟨e, o, none⟩ = some a' ∧ ((((w0.setCell ⟨y, 0, none⟩ u0).setCell ⟨y, 1, none⟩ u1).setCell ⟨y, 2, none⟩ u2).setCell ⟨y, 3, none⟩ u3).drew.cell? ⟨e, o + 1, none⟩ = some b' ∧ ((((w0.setCell ⟨y, 0, none⟩ u0).setCell ⟨y, 1, none⟩ u1).setCell ⟨y, 2, none⟩ u2).setCell ⟨y, 3, none⟩ u3).drew.cell? ⟨e, o + 2, none⟩ = some c' ∧ ((((w0.setCell ⟨y, 0, none⟩ u0).setCell ⟨y, 1, none⟩ u1).setCell ⟨y, 2, none⟩ u2).setCell ⟨y, 3, none⟩ u3).drew.cell? ⟨e, o + 3, none⟩ = some d' := by
  have hdr : ∀ (w : World) (a : Addr), w.drew.cell? a = w.cell? a := fun _ _ => rfl
  simp only [hdr] at h ⊢
  exact two_set h y u0 u1 u2 u3 h1 h2
theorem raw_arg {d : Nat} {t : TermM} {m : Nat} (h : Raw d t) (hm : m < t.args.length) (hb : Bnd (t.args.getD m default)) : Raw d (t.args.getD m default) := by
  refine ⟨hb, ?_, ?_⟩
  · have h1 := h.2.1
    rw [← t.eta, bare_mk] at h1
    exact h1.2 _ (by rw [getD_at hm]; exact List.getElem_mem _)
  · have h1 := h.2.2
    have h2 := size_le_sizes hm
    have h3 := termro.size_eq t
    omega
theorem raw_sub {d d' : Nat} {t : TermM} (h : Raw d t) (hd : d ≤ d') : Raw d' t := ⟨h.1, h.2.1, Nat.le_trans h.2.2 (Nat.pow_le_pow_right (by omega) (by omega))⟩
/-- two drawn terms, their memory new -/
def TwoPost (w : World) (e : Ending) (w' : World) : Prop := ∃ (x t : TermM) (vx vt : Value), e = .returned (.tuple #[.agg #[.int .i64 x.op, .string (bstr x.name), .int .i64 x.sort, vx], .agg #[.int .i64 t.op, .string (bstr t.name), .int .i64 t.sort, vt]]) ∧ HasTs 3 w.heap.size w' vx x.args ∧ HasTs 3 w.heap.size w' vt t.args ∧ Raw 3 x ∧ Raw 3 t ∧ Below w.heap.size w w'
theorem two_fin {w w3 : World} {l : Nat} {x t : TermM} {vx vt : Value} {dx dt : Nat} (hl : w.heap.size + 2 ≤ l) (hx : HasTs dx l w3 vx x.args) (ht : HasTs dt l w3 vt t.args) (hdx : dx ≤ 3) (hdt : dt ≤ 3) (rx : Raw 3 x) (rt : Raw 3 t) (hb : Below w.heap.size w w3) (a0 a1 a2 a3 b0 b1 b2 b3 : Value) :
    TwoPost w (.returned (.tuple #[.agg #[.int .i64 x.op, .string (bstr x.name), .int .i64 x.sort, vx], .agg #[.int .i64 t.op, .string (bstr t.name), .int .i64 t.sort, vt]])) ((((((((w3.setCell ⟨w.heap.size, 0, none⟩ a0).setCell ⟨w.heap.size, 1, none⟩ a1).setCell ⟨w.heap.size, 2, none⟩ a2).setCell ⟨w.heap.size, 3, none⟩ a3).setCell ⟨w.heap.size + 1, 0, none⟩ b0).setCell ⟨w.heap.size + 1, 1, none⟩ b1).setCell ⟨w.heap.size + 1, 2, none⟩ b2).setCell ⟨w.heap.size + 1, 3, none⟩ b3).drew := by
  have k1 : ∀ (W : World) (i : Nat) (u : Value), Kept l W (W.setCell ⟨w.heap.size, i, none⟩ u) := fun W i u => Kept.set (by show w.heap.size < _; omega) u
  have k2 : ∀ (W : World) (i : Nat) (u : Value), Kept l W (W.setCell ⟨w.heap.size + 1, i, none⟩ u) := fun W i u => Kept.set (by show w.heap.size + 1 < _; omega) u
  have kd : ∀ W : World, Kept l W W.drew := fun W => ⟨Nat.le_refl _, fun _ _ _ => rfl⟩
  have kp := ((((((((k1 w3 0 a0).trans (k1 _ 1 a1)).trans (k1 _ 2 a2)).trans (k1 _ 3 a3)).trans (k2 _ 0 b0)).trans (k2 _ 1 b1)).trans (k2 _ 2 b2)).trans (k2 _ 3 b3)).trans (kd _)
  refine ⟨x, t, vx, vt, rfl, HasR.mono (RT_steady _) (HasR.kept (RT_steady _) (hx.up hdx) kp) (by omega), HasR.mono (RT_steady _) (HasR.kept (RT_steady _) (ht.up hdt) kp) (by omega), rx, rt, ?_⟩
  exact ((((((((hb.setCell (Nat.le_refl _) _).setCell (Nat.le_refl _) _).setCell (Nat.le_refl _) _).setCell (Nat.le_refl _) _).setCell (Nat.le_succ _) _).setCell (Nat.le_succ _) _).setCell (Nat.le_succ _) _).setCell (Nat.le_succ _) _).drew
theorem one_setd {w0 : World} {x : Nat} {a b c d : Value} (h : w0.cell? ⟨x, 0, none⟩ = some a ∧ w0.cell? ⟨x, 1, none⟩ = some b ∧ w0.cell? ⟨x, 2, none⟩ = some c ∧ w0.cell? ⟨x, 3, none⟩ = some d) (y : Nat) (u0 u1 u2 u3 : Value) (h1 : y ≠ x) :
    ((((w0.setCell ⟨y, 0, none⟩ u0).setCell ⟨y, 1, none⟩ u1).setCell ⟨y, 2, none⟩ u2).setCell ⟨y, 3, none⟩ u3).cell? ⟨x, 0, none⟩ = some a ∧ ((((w0.setCell ⟨y, 0, none⟩ u0).setCell ⟨y, 1, none⟩ u1).setCell ⟨y, 2, none⟩ u2).setCell ⟨y, 3, none⟩ u3).cell? ⟨x, 1, none⟩ = some b ∧ ((((w0.setCell ⟨y, 0, none⟩ u0).setCell ⟨y, 1, none⟩ u1).setCell ⟨y, 2, none⟩ u2).setCell ⟨y, 3, none⟩ u3).cell? ⟨x, 2, none⟩ = some c ∧ ((((w0.setCell ⟨y, 0, none⟩ u0).setCell ⟨y, 1, none⟩ u1).setCell ⟨y, 2, none⟩ u2).setCell ⟨y, 3, none⟩ u3).cell? ⟨x, 3, none⟩ = some d := by
  have k : ∀ (w : World) i u z q, y ≠ z → (w.setCell ⟨y, i, none⟩ u).cell? ⟨z, q, none⟩ = w.cell? ⟨z, q, none⟩ := fun w i u z q hz => World.cell?_setCell_other w ⟨y, i, none⟩ ⟨z, q, none⟩ u (fun e => hz (congrArg Addr.block e))
  refine ⟨?_, ?_, ?_, ?_⟩
  · rw [k _ _ _ _ _ h1, k _ _ _ _ _ h1, k _ _ _ _ _ h1, k _ _ _ _ _ h1]; exact h.1
  · rw [k _ _ _ _ _ h1, k _ _ _ _ _ h1, k _ _ _ _ _ h1, k _ _ _ _ _ h1]; exact h.2.1
  · rw [k _ _ _ _ _ h1, k _ _ _ _ _ h1, k _ _ _ _ _ h1, k _ _ _ _ _ h1]; exact h.2.2.1
  · rw [k _ _ _ _ _ h1, k _ _ _ _ _ h1, k _ _ _ _ _ h1, k _ _ _ _ _ h1]; exact h.2.2.2
theorem two_fin' {w w3 : World} {l : Nat} {x t : TermM} {vx vt : Value} {dx dt : Nat} (hl : w.heap.size + 2 ≤ l) (hx : HasTs dx l w3 vx x.args) (ht : HasTs dt l w3 vt t.args) (hdx : dx ≤ 3) (hdt : dt ≤ 3) (rx : Raw 3 x) (rt : Raw 3 t) (hb : Below w.heap.size w w3) (a0 a1 a2 a3 b0 b1 b2 b3 : Value) :
    TwoPost w (.returned (.tuple #[.agg #[.int .i64 x.op, .string (bstr x.name), .int .i64 x.sort, vx], .agg #[.int .i64 t.op, .string (bstr t.name), .int .i64 t.sort, vt]])) ((((((((w3.setCell ⟨w.heap.size, 0, none⟩ a0).setCell ⟨w.heap.size, 1, none⟩ a1).setCell ⟨w.heap.size, 2, none⟩ a2).setCell ⟨w.heap.size, 3, none⟩ a3).setCell ⟨w.heap.size + 1, 0, none⟩ b0).setCell ⟨w.heap.size + 1, 1, none⟩ b1).setCell ⟨w.heap.size + 1, 2, none⟩ b2).setCell ⟨w.heap.size + 1, 3, none⟩ b3) := by
  have k1 : ∀ (W : World) (i : Nat) (u : Value), Kept l W (W.setCell ⟨w.heap.size, i, none⟩ u) := fun W i u => Kept.set (by show w.heap.size < _; omega) u
  have k2 : ∀ (W : World) (i : Nat) (u : Value), Kept l W (W.setCell ⟨w.heap.size + 1, i, none⟩ u) := fun W i u => Kept.set (by show w.heap.size + 1 < _; omega) u
  have kp := (((((((k1 w3 0 a0).trans (k1 _ 1 a1)).trans (k1 _ 2 a2)).trans (k1 _ 3 a3)).trans (k2 _ 0 b0)).trans (k2 _ 1 b1)).trans (k2 _ 2 b2)).trans (k2 _ 3 b3)
  refine ⟨x, t, vx, vt, rfl, HasR.mono (RT_steady _) (HasR.kept (RT_steady _) (hx.up hdx) kp) (by omega), HasR.mono (RT_steady _) (HasR.kept (RT_steady _) (ht.up hdt) kp) (by omega), rx, rt, ?_⟩
  exact (((((((hb.setCell (Nat.le_refl _) _).setCell (Nat.le_refl _) _).setCell (Nat.le_refl _) _).setCell (Nat.le_refl _) _).setCell (Nat.le_succ _) _).setCell (Nat.le_succ _) _).setCell (Nat.le_succ _) _).setCell (Nat.le_succ _) _
end Go.Proofs.Ytkkmjaggebjcbaa.drawv
