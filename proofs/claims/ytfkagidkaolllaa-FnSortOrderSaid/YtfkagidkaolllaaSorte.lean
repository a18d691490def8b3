/-
  THE DRAWS OF SORTS: DrawAboveSort, DrawLeastSorts.
-/
import Derived.Test.YtfkagidkaolllaaSortd
namespace Go.Proofs.Ytfkagidkaolllaa.sorte
open Go.ChangeShapes Go.WideShapes Go.ChangeAt Go.RowKit
open mem split strl subs sorti draw sets sortd

theorem Drawn.grown {a b : World} {g base : Nat} {va vb : Value} {P : List (List UInt8)} {Q : List (Int × Int)} (ho : Drawn a base va vb P Q) (h : a.grownBy b (some g)) (hg : g < base) : Drawn b base va vb P Q :=
  ⟨own_grown ho.1 h hg, own_grown ho.2.1 h hg, ho.2.2⟩
theorem Drawn.shape {w : World} {base : Nat} {va vb : Value} {P : List (List UInt8)} {Q : List (Int × Int)} (h : Drawn w base va vb P Q) :
    ∃ A ca B cb, va = .slice A P.length ca ∧ vb = .slice B Q.length cb ∧ Drawn w base (.slice A P.length ca) (.slice B Q.length cb) P Q := by
  obtain ⟨A, ca, rfl, _⟩ := own_slice h.1
  obtain ⟨B, cb, rfl, _⟩ := own_slice h.2.1
  exact ⟨A, ca, B, cb, rfl, rfl, h⟩
set_option maxRecDepth 20000 in
/-- spec.DrawAboveSort -/
theorem drawAbove_any {n : Nat} {W0 : World} {v : Value} (hcode : draw.Code W0.heap.size W0 v n) (w : World) (hb : Below W0.heap.size W0 w) :
    Calls Try.prog 38 #[v] w fun e w' => ∃ va vb P Q, ∃ x : Int, e = .returned (.tuple #[.agg #[va, vb], .int .i64 x]) ∧ HasS w' va vb P Q ∧ -1 ≤ x ∧ x ≤ 6 ∧ Below w.heap.size w w' := by
  have CN := Lib.hid (new_any hcode (w.alloc (.cells #[.slice none 0 0, .slice none 0 0] 30)) (hb.alloc hb.size _) (by have := hb.size; simp; omega))
  have CL := Lib.hid (fun g W (hW : Cur W0.heap.size W0 v n g W) hB => l3Draw_any (g := g) hcode W hW hB)
  have CB := Lib.hid (fun g m hm hm2 W hW => below_any (g := g) hcode m hm hm2 W hW)
  have hBw := hb.size
  clear hcode hb
  go_enter Try.func38, Try.ntmps38
  go_wp2_with fail
  refine CN.out.mono ?_; rintro e w1 ⟨g, rfl, hg, hcur, hb1⟩
  have hs1 := hb1.size
  simp at hg hs1
  have hr1 : w1.heap[w.heap.size]? = some (.cells #[.slice none 0 0, .slice none 0 0] 30 (0, 0)) := (hb1.block _ (by simp)).trans (heap_alloc_new w _)
  have hw1 : Below w.heap.size w w1 := ((Below.refl _ _).alloc (Nat.le_refl _) _).trans (hb1.mono (by simp))
  have HCUR := Lib.hid hcur
  have HR1 := Lib.hid hr1
  have hgl := hcur.lt.2
  clear hcur hr1 hb1 CN
  go_wp2_with fail
  refine (CL.out g _ HCUR.out (by omega)).mono ?_; rintro e w2 ⟨va, vb, P, Q, rfl, hd, hs2⟩
  obtain ⟨A, ca, B, cb, rfl, rfl, hd'⟩ := Drawn.shape hd
  have HD := Lib.hid hd'
  have HS2 := Lib.hid hs2
  clear hd hd' hs2 CL
  go_wp2_with fail
  refine (CB.out g 8 (by omega) (by omega) _ HS2.out.1).mono ?_; rintro e w3 ⟨x, rfl, hx0, hx1, hs3⟩
  have hs13 := HS2.out.trans hs3
  have hr3 := cells_step hs13 HR1.out (by omega)
  have r0 := cell_of_row w3 _ 0 _ _ _ hr3
  have r1 := cell_of_row w3 _ 1 _ _ _ hr3
  have s0 := frozen_of_row w3 _ 0 _ _ hr3
  have s1 := frozen_of_row w3 _ 1 _ _ hr3
  have HD3 := Lib.hid (Drawn.step hs3 HD.out hgl)
  have hw3 := hw1.trans (Step.below hs13 (C := w.heap.size) (by omega) (by omega))
  clear hs3 hs13 hr3
  simp at r0 r1
  go_wp2
  refine bodyPost_ret (v := .tuple #[.agg #[.slice A P.length ca, .slice B Q.length cb], .int .i64 (x - 1)]) (by simp [results, Try.results38, go_sem, r0, r1, s0, s1]) rfl ⟨_, _, P, Q, x - 1, rfl, ?_, by omega, by omega, (hw3.setCell (Nat.le_refl _) _).setCell (Nat.le_refl _) _⟩
  exact (Drawn.grown (Drawn.grown HD3.out (grown_set (World.grownBy.refl _ _) _ _) (by omega)) (grown_set (World.grownBy.refl _ _) _ _) (by omega)).has
theorem and_in (a b : Int) : -9223372036854775808 ≤ bits .and .i64 a b ∧ bits .and .i64 a b ≤ 9223372036854775807 := by
  unfold bits
  simp only [IntKind.wrap_i64]
  omega
set_option maxHeartbeats 2000000 in
set_option maxRecDepth 20000 in
/-- spec.DrawLeastSorts -/
theorem drawLeast_any {n : Nat} {W0 : World} {v : Value} (hcode : draw.Code W0.heap.size W0 v n) (w : World) (hb : Below W0.heap.size W0 w) :
    Calls Try.prog 33 #[v] w fun e w' => ∃ va vb P Q, ∃ x : Int, e = .returned (.tuple #[.agg #[va, vb], .int .i64 x]) ∧ HasS w' va vb P Q ∧ -9223372036854775808 ≤ x ∧ x ≤ 9223372036854775807 ∧ Below w.heap.size w w' := by
  have CN := Lib.hid (new_any hcode (w.alloc (.cells #[.slice none 0 0, .slice none 0 0] 30)) (hb.alloc hb.size _) (by have := hb.size; simp; omega))
  have CL := Lib.hid (fun g W (hW : Cur W0.heap.size W0 v n g W) hB => l3Draw_any (g := g) hcode W hW hB)
  have CO := Lib.hid (fun g m hm hm2 W hW => once_any (g := g) hcode m hm hm2 W hW)
  have CD := Lib.hid (fun g W hW => l2Draw_any (g := g) hcode W hW)
  have hBw := hb.size
  clear hcode hb
  go_enter Try.func33, Try.ntmps33
  go_wp2_with fail
  refine CN.out.mono ?_; rintro e w1 ⟨g, rfl, hg, hcur, hb1⟩
  have hs1 := hb1.size
  simp at hg hs1
  have hr1 : w1.heap[w.heap.size]? = some (.cells #[.slice none 0 0, .slice none 0 0] 30 (0, 0)) := (hb1.block _ (by simp)).trans (heap_alloc_new w _)
  have hw1 : Below w.heap.size w w1 := ((Below.refl _ _).alloc (Nat.le_refl _) _).trans (hb1.mono (by simp))
  have HCUR := Lib.hid hcur
  have HR1 := Lib.hid hr1
  have hgl := hcur.lt.2
  clear hcur hr1 hb1 CN
  go_wp2_with fail
  refine (CL.out g _ HCUR.out (by omega)).mono ?_; rintro e w2 ⟨va, vb, P, Q, rfl, hd, hs2⟩
  obtain ⟨A, ca, B, cb, rfl, rfl, hd'⟩ := Drawn.shape hd
  have hp6 : P.length < 16 := by have := hd'.2.2.2.2.2; omega
  have hsz2 := hs2.2.size
  have HD := Lib.hid (Drawn.below ((Below.refl _ _).alloc (Nat.le_refl _) (.cells #[.slice A P.length ca, .slice B Q.length cb] 30)) hd')
  have HS2 := Lib.hid (Step.alloc hs2 (.cells #[.slice A P.length ca, .slice B Q.length cb] 30))
  clear hd hd' hs2 CL
  go_wp2_with fail
  refine (CO.out g 8 (by omega) (by omega) _ HS2.out.1).mono ?_; rintro e w3 ⟨o, rfl, hs3⟩
  have hs13 := HS2.out.trans hs3
  have hr3 := cells_step hs13 HR1.out (by omega)
  have hx3 := cells_step hs3 (heap_alloc_new w2 (.cells #[.slice A P.length ca, .slice B Q.length cb] 30)) (by omega)
  have HD3 := Lib.hid (Drawn.step hs3 HD.out hgl)
  have HS13 := Lib.hid hs13
  have HR3 := Lib.hid hr3
  have HX3 := Lib.hid hx3
  have hsz3 := hs3.2.size
  simp at hsz3
  have CD2 : Hid (∀ W, W.heap = w3.heap → Step W0.heap.size W0 v n g w3 W → Calls Try.prog 65 #[.pointer (some ⟨g, 0, none⟩)] W fun e w' => ∃ x : Int, e = .returned (.int .i64 x) ∧ (-9223372036854775808 ≤ x ∧ x ≤ 9223372036854775807) ∧ Step W0.heap.size W0 v n g w3 w') := Lib.hid (fun W _ hW => by
    refine (CD.out g W hW.1).mono ?_
    rintro e w5 ⟨x, rfl, hx0, hx1, hs5⟩
    exact ⟨x, rfl, ⟨hx0, hx1⟩, hW.trans hs5⟩)
  have k0 : w3.cell? ⟨w2.heap.size, 0, none⟩ = some (.slice A P.length ca) := cell_of_row w3 _ 0 _ _ _ hx3
  have k1 : w3.cell? ⟨w2.heap.size, 1, none⟩ = some (.slice B Q.length cb) := cell_of_row w3 _ 1 _ _ _ hx3
  have HBIT := Lib.hid (fun W => l2Bit_any P.length hp6 W)
  have hstep0 : Hid (Step W0.heap.size W0 v n g w3 w3) := Lib.hid (Step.refl hs13.1)
  have hstep1 : Hid (Step W0.heap.size W0 v n g w3 w3.drew) := Lib.hid (Step.over (Step.refl hs13.1) ((Below.refl _ _).drew) (by omega) (by omega))
  clear hs3 hs13 hr3 hx3
  cases o with
  | true =>
    go_wp2
    go_region_with ((go_at_call 65
                     refine (CD2.out _ (by rfl) ?_).mono ?_
                     · first | exact hstep0.out | exact hstep1.out
                     rintro e w4 ⟨x, rfl, hx, hs4⟩
                     have hr4 := cells_step hs4 HR3.out (by omega)
                     have hx4 := cells_step hs4 HX3.out (by omega)
                     have m0 : w4.cell? ⟨w2.heap.size, 0, none⟩ = some (.slice A P.length ca) := cell_of_row w4 _ 0 _ _ _ hx4
                     have m1 : w4.cell? ⟨w2.heap.size, 1, none⟩ = some (.slice B Q.length cb) := cell_of_row w4 _ 1 _ _ _ hx4
                     have r0 : w4.cell? ⟨w.heap.size, 0, none⟩ = some (.slice none 0 0) := cell_of_row w4 _ 0 _ _ _ hr4
                     have r1 : w4.cell? ⟨w.heap.size, 1, none⟩ = some (.slice none 0 0) := cell_of_row w4 _ 1 _ _ _ hr4
                     have s0 := frozen_of_row w4 _ 0 _ _ hr4
                     have s1 := frozen_of_row w4 _ 1 _ _ hr4
                     have HD4 := Lib.hid (Drawn.step hs4 HD3.out hgl)
                     have hw4 := hw1.trans (Step.below (HS13.out.trans hs4) (C := w.heap.size) (by omega) (by omega))
                     clear hs4 hr4 hx4))
    all_goals (
      go_wp2
      refine bodyPost_ret (v := .tuple #[.agg #[.slice A P.length ca, .slice B Q.length cb], .int .i64 x]) (by simp [results, Try.results33, go_sem, r0, r1, s0, s1]) rfl ⟨_, _, P, Q, x, rfl, ?_, hx.1, hx.2, (hw4.setCell (Nat.le_refl _) _).setCell (Nat.le_refl _) _⟩
      exact (Drawn.grown (Drawn.grown HD4.out (grown_set (World.grownBy.refl _ _) _ _) (by omega)) (grown_set (World.grownBy.refl _ _) _ _) (by omega)).has)
  | false =>
    have hai := and_in
    have HAI := Lib.hid hai
    obtain ⟨z, hz⟩ : ∃ z, z = 2 ^ P.length := ⟨_, rfl⟩
    rw [← hz] at HBIT
    clear hz hai
    go_wp2
    go_region_with (first
      | (go_at_call 65
         refine (CD2.out _ (by rfl) ?_).mono ?_
         · first | exact hstep0.out | exact hstep1.out
         rintro e w4 ⟨x, rfl, hx, hs4⟩
         have hr4 := cells_step hs4 HR3.out (by omega)
         have hx4 := cells_step hs4 HX3.out (by omega)
         have m0 : w4.cell? ⟨w2.heap.size, 0, none⟩ = some (.slice A P.length ca) := cell_of_row w4 _ 0 _ _ _ hx4
         have m1 : w4.cell? ⟨w2.heap.size, 1, none⟩ = some (.slice B Q.length cb) := cell_of_row w4 _ 1 _ _ _ hx4
         have r0 : w4.cell? ⟨w.heap.size, 0, none⟩ = some (.slice none 0 0) := cell_of_row w4 _ 0 _ _ _ hr4
         have r1 : w4.cell? ⟨w.heap.size, 1, none⟩ = some (.slice none 0 0) := cell_of_row w4 _ 1 _ _ _ hr4
         have s0 := frozen_of_row w4 _ 0 _ _ hr4
         have s1 := frozen_of_row w4 _ 1 _ _ hr4
         have HD4 := Lib.hid (Drawn.step hs4 HD3.out hgl)
         have hw4 := hw1.trans (Step.below (HS13.out.trans hs4) (C := w.heap.size) (by omega) (by omega))
         clear hs4 hr4 hx4)
      | (go_at_call 49; refine (HBIT.out _).mono ?_; rintro e w5 ⟨rfl, rfl⟩))
    all_goals (
      go_wp2
      refine bodyPost_ret (v := .tuple #[.agg #[.slice A P.length ca, .slice B Q.length cb], .int .i64 (bits .and .i64 x (IntKind.i64.wrap ((z : Int) - 1)))]) (by simp [results, Try.results33, go_sem, r0, r1, s0, s1]) rfl ⟨_, _, P, Q, _, rfl, ?_, (HAI.out _ _).1, (HAI.out _ _).2, (hw4.setCell (Nat.le_refl _) _).setCell (Nat.le_refl _) _⟩
      exact (Drawn.grown (Drawn.grown HD4.out (grown_set (World.grownBy.refl _ _) _ _) (by omega)) (grown_set (World.grownBy.refl _ _) _ _) (by omega)).has)
end Go.Proofs.Ytfkagidkaolllaa.sorte
