/-
  THE DRAWS OF SORTS: DrawAboveSort, DrawLeastSorts.
-/
import Derived.Test.YteaccmneblhoaaaSortd
namespace Go.Proofs.Yteaccmneblhoaaa.sorte
open Go.ChangeShapes Go.WideShapes Go.ChangeAt Go.RowKit
open mem split strl subs sorti draw sets sortd

theorem Drawn.grown {a b : World} {g base : Nat} {va vb : Value} {P : List (List UInt8)} {Q : List (Int × Int)} (ho : Drawn a base va vb P Q) (h : a.grownBy b (some g)) (hg : g < base) : Drawn b base va vb P Q :=
  ⟨own_grown ho.1 h hg, own_grown ho.2.1 h hg, ho.2.2⟩
theorem Drawn.shape {w : World} {base : Nat} {va vb : Value} {P : List (List UInt8)} {Q : List (Int × Int)} (h : Drawn w base va vb P Q) :
    ∃ A ca B cb, va = .slice A P.length ca ∧ vb = .slice B Q.length cb ∧ Drawn w base (.slice A P.length ca) (.slice B Q.length cb) P Q := by
  obtain ⟨A, ca, rfl, _⟩ := own_slice h.1
  obtain ⟨B, cb, rfl, _⟩ := own_slice h.2.1
  exact ⟨A, ca, B, cb, rfl, rfl, h⟩
set_option maxRecDepth 20000 in
/-- spec.DrawAboveSort -/
theorem drawAbove_any {n : Nat} {W0 : World} {v : Value} (hcode : draw.Code W0.heap.size W0 v n) (w : World) (hb : Below W0.heap.size W0 w) :
    Calls Try.prog 10 #[v] w fun e w' => ∃ va vb P Q, ∃ x : Int, e = .returned (.tuple #[.agg #[va, vb], .int .i64 x]) ∧ HasS w' va vb P Q ∧ -1 ≤ x ∧ x ≤ 6 ∧ Below w.heap.size w w' := by
  have CN := Lib.hid (new_any hcode (w.alloc (.cells #[.slice none 0 0, .slice none 0 0] 27)) (hb.alloc hb.size _) (by have := hb.size; simp; omega))
  have CL := Lib.hid (fun g W (hW : Cur W0.heap.size W0 v n g W) hB => l3Draw_any (g := g) hcode W hW hB)
  have CB := Lib.hid (fun g m hm hm2 W hW => below_any (g := g) hcode m hm hm2 W hW)
  have hBw := hb.size
  clear hcode hb
  go_enter Try.func10, Try.ntmps10
  go_wp2_with fail
  refine CN.out.mono ?_; rintro e w1 ⟨g, rfl, hg, hcur, hb1⟩
  have hs1 := hb1.size
  simp at hg hs1
  have hr1 : w1.heap[w.heap.size]? = some (.cells #[.slice none 0 0, .slice none 0 0] 27 (0, 0)) := (hb1.block _ (by simp)).trans (heap_alloc_new w _)
  have hw1 : Below w.heap.size w w1 := ((Below.refl _ _).alloc (Nat.le_refl _) _).trans (hb1.mono (by simp))
  have HCUR := Lib.hid hcur
  have HR1 := Lib.hid hr1
  have hgl := hcur.lt.2
  clear hcur hr1 hb1 CN
  go_wp2_with fail
  refine (CL.out g _ HCUR.out (by omega)).mono ?_; rintro e w2 ⟨va, vb, P, Q, rfl, hd, hs2⟩
  obtain ⟨A, ca, B, cb, rfl, rfl, hd'⟩ := Drawn.shape hd
  have HD := Lib.hid hd'
  have HS2 := Lib.hid hs2
  clear hd hd' hs2 CL
  go_wp2_with fail
  refine (CB.out g 8 (by omega) (by omega) _ HS2.out.1).mono ?_; rintro e w3 ⟨x, rfl, hx0, hx1, hs3⟩
  have hs13 := HS2.out.trans hs3
  have hr3 := cells_step hs13 HR1.out (by omega)
  have r0 := cell_of_row w3 _ 0 _ _ _ hr3
  have r1 := cell_of_row w3 _ 1 _ _ _ hr3
  have s0 := frozen_of_row w3 _ 0 _ _ hr3
  have s1 := frozen_of_row w3 _ 1 _ _ hr3
  have HD3 := Lib.hid (Drawn.step hs3 HD.out hgl)
  have hw3 := hw1.trans (Step.below hs13 (C := w.heap.size) (by omega) (by omega))
  clear hs3 hs13 hr3
  simp at r0 r1
  go_wp2
  refine bodyPost_ret (v := .tuple #[.agg #[.slice A P.length ca, .slice B Q.length cb], .int .i64 (x - 1)]) (by simp [results, Try.results10, go_sem, r0, r1, s0, s1]) rfl ⟨_, _, P, Q, x - 1, rfl, ?_, by omega, by omega, (hw3.setCell (Nat.le_refl _) _).setCell (Nat.le_refl _) _⟩
  exact (Drawn.grown (Drawn.grown HD3.out (grown_set (World.grownBy.refl _ _) _ _) (by omega)) (grown_set (World.grownBy.refl _ _) _ _) (by omega)).has
end Go.Proofs.Yteaccmneblhoaaa.sorte
