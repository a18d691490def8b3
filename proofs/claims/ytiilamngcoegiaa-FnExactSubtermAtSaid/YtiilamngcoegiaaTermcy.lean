/-
  THE PROGRAM'S copyTerm: a term in memory of its own.
-/
import Derived.Test.YtiilamngcoegiaaTermpw
namespace Go.Proofs.Ytiilamngcoegiaa.termcy
open Go.ChangeShapes Go.WideShapes Go.ChangeAt Go.RowKit
open mem rowl trm trmv terml termb termt termx termz termro termsd termvx termcl termsp termpr termpw

abbrev st4 (w : World) (x : Nat) (u0 u1 u2 u3 : Value) : World := (((w.setCell ⟨x, 0, none⟩ u0).setCell ⟨x, 1, none⟩ u1).setCell ⟨x, 2, none⟩ u2).setCell ⟨x, 3, none⟩ u3
theorem st4_below {B : Nat} {a w : World} (h : Below B a w) {x : Nat} (hx : B ≤ x) (u0 u1 u2 u3 : Value) : Below B a (st4 w x u0 u1 u2 u3) := (((h.setCell hx u0).setCell hx u1).setCell hx u2).setCell hx u3
theorem row1 (w : World) (u0 u1 u2 u3 : Value) : (w.alloc (.cells #[u0, u1, u2, u3] 40)).ownsRow w.heap.size 40 4 (.slice (some ⟨w.heap.size, 0, none⟩) 1 1) 1 [u0, u1, u2, u3] := by
  simpa using World.ownsRow_lit (e := 40) (size := 4) w #[u0, u1, u2, u3] 1 (Nat.le_refl _) (by unfold maxLen; omega) rfl
theorem ot_st4 {n lo : Nat} {w : World} {v : Value} {L : List TermM} {S : List Nat} (h : OT 40 n lo w v L S) {x : Nat} (hx : x < lo) (u0 u1 u2 u3 : Value) : OT 40 n lo (st4 w x u0 u1 u2 u3) v L S := by
  refine h.chg (S' := [x]) ?_ (fun k hk hm => ?_)
  · exact ((((Chg.refl [x] w).trans (Chg.set (by simp) u0)).trans (Chg.set (by simp) u1)).trans (Chg.set (by simp) u2)).trans (Chg.set (by simp) u3)
  · have := (h.lt k hk).1
    simp at hm
    omega
set_option maxRecDepth 20000 in
set_option maxHeartbeats 2000000 in
/-- impl.copyTerm -/
theorem icopy_any {N lo : Nat} (t : TermM) (v : Value) (w : World) (hv : HasTs N lo w v t.args) (hs : size t ≤ 1073741823) :
    Calls Try.prog 36 #[aggT t v] w fun e w' => ∃ v' S, e = .returned (aggT t v') ∧ OT 40 (depth t) w.heap.size w' v' t.args S ∧ Below w.heap.size w w' := by
  obtain ⟨W, hW⟩ : ∃ W, W = (w.alloc (.cells #[.int .i64 t.op, .string (bstr t.name), .int .i64 t.sort, v] 40)).alloc (.cells #[.int .i64 0, .string { data := #[] }, .int .i64 0, .slice none 0 0] 40) := ⟨_, rfl⟩
  have hb0 : Below w.heap.size w W := by rw [hW]; exact ((Below.refl _ _).alloc (Nat.le_refl _) _).alloc (by simp) _
  have hz0 : W.heap.size = w.heap.size + 2 := by rw [hW]; simp
  have hY0 : W.heap[w.heap.size + 1]? = some (.cells #[.int .i64 0, .string { data := #[] }, .int .i64 0, .slice none 0 0] 40 (0, 0)) := by rw [hW]; exact heap_at _ _ _ (by simp)
  have ho : W.ownsRow w.heap.size 40 4 (.slice (some ⟨w.heap.size, 0, none⟩) 1 1) 1 [.int .i64 t.op, .string (bstr t.name), .int .i64 t.sort, v] := by
    rw [hW]
    exact own_below (row1 w _ _ _ _) ((Below.refl _ _).alloc (Nat.le_refl _) _)
  have HSEP := Lib.hid (sep_any (N := N) (lo := lo) (B := w.heap.size) w W w.heap.size 0 1 1 t v _ hb0 (Nat.le_refl _) (Nat.le_refl _) ho (by omega) rfl hv hs)
  have HY := Lib.hid hY0
  obtain ⟨A, c, rfl, _⟩ := HasR.shape hv rfl
  obtain ⟨to, hto⟩ : ∃ q, q = t.op := ⟨_, rfl⟩
  obtain ⟨tn, htn⟩ : ∃ q, q = t.name := ⟨_, rfl⟩
  obtain ⟨ts, hts⟩ : ∃ q, q = t.sort := ⟨_, rfl⟩
  obtain ⟨tl, htl⟩ : ∃ q, q = t.args.length := ⟨_, rfl⟩
  have HQQ := Lib.hid (And.intro hto (And.intro htn (And.intro hts htl)))
  have HD := Lib.hid (termro.depth_eq t)
  unfold aggT
  rw [← hto, ← htn, ← hts] at hW HSEP ⊢
  rw [← htl] at hW HSEP ⊢
  have HZ := Lib.hid hz0
  clear hv hs hb0 hz0 hY0 ho hto htn hts htl
  go_enter Try.func36, Try.ntmps36
  go_wp2_with fail
  rw [← hW]
  clear hW
  simp only [Nat.zero_mul] at HSEP
  refine HSEP.out.mono ?_
  rintro e w7 ⟨rfl, ⟨v7, S7, xs7, ho7, hx7, hv7, hot7, hg7⟩, hch7, hb7⟩
  have hcell : ∀ p, p < 4 → w7.cell? ⟨w.heap.size, p, none⟩ = xs7[p]? := fun p hp => ho7.cellAt p (by omega)
  have k0 := (hcell 0 (by omega)).trans (hx7 0 (by omega))
  have k1 := (hcell 1 (by omega)).trans (hx7 1 (by omega))
  have k2 := (hcell 2 (by omega)).trans (hx7 2 (by omega))
  have k3 := (hcell 3 (by omega)).trans hv7
  simp at k0 k1 k2
  have hY7 := (hch7.block (w.heap.size + 1) (by rw [HZ.out]; omega) (by simp)).trans HY.out
  have z0 := cell_of_row w7 _ 0 _ _ _ hY7
  have z1 := cell_of_row w7 _ 1 _ _ _ hY7
  have z2 := cell_of_row w7 _ 2 _ _ _ hY7
  have z3 := cell_of_row w7 _ 3 _ _ _ hY7
  have q0 := frozen_of_row w7 _ 0 _ _ hY7
  have q1 := frozen_of_row w7 _ 1 _ _ hY7
  have q2 := frozen_of_row w7 _ 2 _ _ hY7
  have q3 := frozen_of_row w7 _ 3 _ _ hY7
  have hsz7 := hch7.size
  rw [HD.out] at hot7
  obtain ⟨A7, c7, rfl⟩ := OT.shape hot7
  rw [← HQQ.out.2.2.2] at k3
  have HFN : Hid (∀ u0 u1 u2 u3, ∃ v' S, (Ending.returned (.agg #[.int .i64 to, .string (bstr tn), .int .i64 ts, .slice A7 tl c7])) = .returned (.agg #[.int .i64 to, .string (bstr tn), .int .i64 ts, v']) ∧ OT 40 (depth t) w.heap.size (st4 w7 (w.heap.size + 1) u0 u1 u2 u3) v' t.args S ∧ Below w.heap.size w (st4 w7 (w.heap.size + 1) u0 u1 u2 u3)) := Lib.hid (fun u0 u1 u2 u3 => by
    refine ⟨.slice A7 tl c7, S7, rfl, ?_, st4_below hb7 (by omega) _ _ _ _⟩
    rw [HD.out, HQQ.out.2.2.2]
    exact (ot_st4 hot7 (x := w.heap.size + 1) (by rw [HZ.out]; omega) u0 u1 u2 u3).mono (by rw [HZ.out]; omega))
  clear ho7 hx7 hv7 hot7 hg7 hch7 hb7 hcell hsz7 hY7 HSEP HQQ HD HY
  go_wp2
  refine bodyPost_ret (v := .agg #[.int .i64 to, .string (bstr tn), .int .i64 ts, .slice A7 tl c7]) (by simp [results, Try.results36, go_sem, z0, z1, z2, z3]) rfl ?_
  exact HFN.out _ _ _ _
end Go.Proofs.Ytiilamngcoegiaa.termcy
