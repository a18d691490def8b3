/-
  THE DRAW OF TWO TERMS FOR CompareTerms.
-/
import Derived.Test.YtkkmjaggebjcbaaDrawv
namespace Go.Proofs.Ytkkmjaggebjcbaa.drawc
open Go.ChangeShapes Go.WideShapes Go.ChangeAt Go.RowKit
open mem rowl trm trmv terml termb termt termu draw drawm termvx drawt drawv

theorem one_setdd {w0 : World} {x : Nat} {a b c d : Value} (h : w0.drew.cell? ⟨x, 0, none⟩ = some a ∧ w0.drew.cell? ⟨x, 1, none⟩ = some b ∧ w0.drew.cell? ⟨x, 2, none⟩ = some c ∧ w0.drew.cell? ⟨x, 3, none⟩ = some d) (y : Nat) (u0 u1 u2 u3 : Value) (h1 : y ≠ x) :
    ((((w0.setCell ⟨y, 0, none⟩ u0).setCell ⟨y, 1, none⟩ u1).setCell ⟨y, 2, none⟩ u2).setCell ⟨y, 3, none⟩ u3).drew.cell? ⟨x, 0, none⟩ = some a ∧ ((((w0.setCell ⟨y, 0, none⟩ u0).setCell ⟨y, 1, none⟩ u1).setCell ⟨y, 2, none⟩ u2).setCell ⟨y, 3, none⟩ u3).drew.cell? ⟨x, 1, none⟩ = some b ∧ ((((w0.setCell ⟨y, 0, none⟩ u0).setCell ⟨y, 1, none⟩ u1).setCell ⟨y, 2, none⟩ u2).setCell ⟨y, 3, none⟩ u3).drew.cell? ⟨x, 2, none⟩ = some c ∧
    ((((w0.setCell ⟨y, 0, none⟩ u0).setCell ⟨y, 1, none⟩ u1).setCell ⟨y, 2, none⟩ u2).setCell ⟨y, 3, none⟩ u3).drew.cell? ⟨x, 3, none⟩ = some d := by
  have hdr : ∀ (w : World) (a : Addr), w.drew.cell? a = w.cell? a := fun _ _ => rfl
  simp only [hdr] at h ⊢
  exact one_setd h y u0 u1 u2 u3 h1
set_option maxRecDepth 50000 in
set_option maxHeartbeats 8000000 in
theorem cmpDraw_any {n : Nat} {W0 : World} {v : Value} (hcode : draw.Code W0.heap.size W0 v n) (w : World) (hb : Below W0.heap.size W0 w) :
    Calls Try.prog 6 #[v] w (TwoPost w) := by
  have HON := Lib.hid (fun g m (h1 : 0 < m) (h2 : m ≤ 1000000000) W hW => once_any (g := g) hcode m h1 h2 W hW)
  have HBE := Lib.hid (fun g m (h1 : 0 < m) (h2 : m ≤ 1000000000) W hW => below_any (g := g) hcode m h1 h2 W hW)
  have HRA := Lib.hid (fun d (hd : d ≤ 20) g W hW => raw_all d hd _ n g W0 v hcode 6 (by omega) (by omega) W hW)
  have HNE := Lib.hid (fun W (h1 : Below w.heap.size w W) => new_any hcode W (hb.trans (h1.mono hb.size)) (Nat.le_trans hb.size h1.size))
  have hBw := hb.size
  obtain ⟨A, cap, rfl, _⟩ := hcode
  clear hb
  go_enter Try.func6, Try.ntmps6
  go_wp2_with fail
  have hb0 : Below w.heap.size w ((w.alloc (.cells #[.int .i64 0, .string { data := #[] }, .int .i64 0, .slice none 0 0] 26)).alloc (.cells #[.int .i64 0, .string { data := #[] }, .int .i64 0, .slice none 0 0] 26)) := ((Below.refl _ _).alloc (Nat.le_refl _) _).alloc (by simp) _
  refine (HNE.out _ hb0).mono ?_
  rintro e w1 ⟨g, rfl, hg1, hc1, hb1⟩
  have hz1 : w.heap.size + 2 ≤ w1.heap.size := by have := hb1.size; simp at this; omega
  have hgw : w.heap.size + 2 ≤ g := by simp at hg1; omega
  have HX1 : Hid (Box w1 w.heap.size (.int .i64 0) (.string { data := #[] }) (.int .i64 0) (.slice none 0 0) ∧ Box w1 (w.heap.size + 1) (.int .i64 0) (.string { data := #[] }) (.int .i64 0) (.slice none 0 0)) := Lib.hid ⟨box_below (box_below (heap_at _ _ _ rfl) ((Below.refl _ _).alloc (Nat.le_refl _) _)) hb1, box_below (heap_at _ _ _ (by simp)) hb1⟩
  have HC1 := Lib.hid hc1
  have HB1 : Hid (Below w.heap.size w w1) := Lib.hid (hb0.trans (hb1.mono hb0.size))
  clear hc1 hb1 hg1 hb0 HNE
  go_wp2_with fail
  refine (HRA.out 2 (by omega) g w1 HC1.out).mono ?_
  rintro e w2 ⟨t, va, rfl, hh, hr, hs2⟩
  obtain ⟨A2, c2, rfl, _⟩ := HasR.shape hh rfl
  have hgl := HC1.out.lt.2
  have HX2 : Hid (Box w2 w.heap.size (.int .i64 0) (.string { data := #[] }) (.int .i64 0) (.slice none 0 0) ∧ Box w2 (w.heap.size + 1) (.int .i64 0) (.string { data := #[] }) (.int .i64 0) (.slice none 0 0)) := Lib.hid ⟨step_blk hs2 HX1.out.1 (by omega), step_blk hs2 HX1.out.2 (by omega)⟩
  have HB2 : Hid (Below w.heap.size w w2) := Lib.hid (HB1.out.trans (hs2.below (by omega) (by omega)))
  have hz2 : w1.heap.size ≤ w2.heap.size := hs2.2.size
  have HT := Lib.hid (And.intro hh hr)
  have HS2 := Lib.hid hs2
  clear hh hr hs2 HX1 HB1
  go_wp2_with fail
  refine (HON.out g 3 (by omega) (by omega) _ (HS2.out.alloc _).1).mono ?_
  rintro e w3 ⟨y, rfl, hs3⟩
  have HX3 : Hid ((Box w3 w.heap.size (.int .i64 0) (.string { data := #[] }) (.int .i64 0) (.slice none 0 0) ∧ Box w3 (w.heap.size + 1) (.int .i64 0) (.string { data := #[] }) (.int .i64 0) (.slice none 0 0)) ∧ Box w3 w2.heap.size (.int .i64 t.op) (.string (bstr t.name)) (.int .i64 t.sort) (.slice A2 t.args.length c2)) :=
    Lib.hid ⟨⟨step_blk hs3 (box_below HX2.out.1 ((Below.refl _ _).alloc (Nat.le_refl _) _)) (by omega), step_blk hs3 (box_below HX2.out.2 ((Below.refl _ _).alloc (Nat.le_refl _) _)) (by omega)⟩, step_blk hs3 (heap_at _ _ _ rfl) (by omega)⟩
  have hz3 : w2.heap.size + 1 ≤ w3.heap.size := by have := hs3.2.size; simpa using this
  have HS3 : Hid (Step W0.heap.size W0 (.slice A n cap) n g w2 w3) := Lib.hid ((Step.refl HS2.out.1).alloc _ |>.trans hs3)
  have HG3 := Lib.hid hs3.2
  clear hs3 HX2
  obtain ⟨⟨b0, b1, b2, b3⟩, _⟩ := HX3.out.2.cells
  have n1 : ¬ w.heap.size = w.heap.size + 1 := by omega
  have n2 : ¬ w.heap.size = w2.heap.size := by omega
  have n3 : ¬ w.heap.size + 1 = w2.heap.size := by omega
  have HH3 : Hid (HasTs 2 w1.heap.size w3 (.slice A2 t.args.length c2) t.args) := Lib.hid (HasR.kept (RT_steady 2) HT.out.1 ((Kept.below ((Below.refl _ _).alloc (Nat.le_refl _) _) (Nat.le_refl _)).trans (Kept.grown HG3.out hgl)))
  have HB3 : Hid (Below w.heap.size w w3) := Lib.hid (HB2.out.trans (HS3.out.below (by omega) (by omega)))
  cases y with
  | true =>
    obtain ⟨⟨d0, d1, d2, d3⟩, g0, g1, g2, g3⟩ := HX3.out.1.1.cells
    obtain ⟨⟨e0, e1, e2, e3⟩, f0, f1, f2, f3⟩ := HX3.out.1.2.cells
    go_wp2_with fail
    refine wp_region_noPanic ?_
    refine wp_region_held_drew (S := (fun w' => w'.cell? ⟨w2.heap.size, 0, none⟩ = some (.int .i64 t.op) ∧ w'.cell? ⟨w2.heap.size, 1, none⟩ = some (.string (bstr t.name)) ∧ w'.cell? ⟨w2.heap.size, 2, none⟩ = some (.int .i64 t.sort) ∧ w'.cell? ⟨w2.heap.size, 3, none⟩ = some (.slice A2 t.args.length c2))) (by kernel_rfl) ?_ (fun hHd0 => ?_)
    · refine ⟨?_, ?_, ?_, ?_⟩ <;> assumption
    refine wpAnyH_take (i := 0) (v := ?_) rfl (by kernel_rfl) (by kernel_rfl) (by kernel_rfl) (fun _ _ _ h => h) (Or.inl ⟨by rfl, ?_⟩) (by with_reducible assumption) ?_
    rotate_left
    · intro w hSw; (try dsimp only at hSw); go_simp <;> with_reducible rfl
    (try simp only [Act.put]); (try simp only [List.setIfInBounds_toArray]); (try simp only [List.set_cons_succ, List.set_cons_zero])
    refine wpAnyH_take (i := 1) (v := ?_) rfl (by kernel_rfl) (by kernel_rfl) (by kernel_rfl) (fun _ _ _ h => h) (Or.inl ⟨by rfl, ?_⟩) (by with_reducible assumption) ?_
    rotate_left
    · intro w hSw; (try dsimp only at hSw); go_simp <;> with_reducible rfl
    (try simp only [Act.put]); (try simp only [List.setIfInBounds_toArray]); (try simp only [List.set_cons_succ, List.set_cons_zero])
    refine wpAnyH_ready (rs := [2]) (by kernel_rfl) (by simp) ?_
    refine AllReadyH.cons (o := _) rfl (fun K hK => ?_) ?_
    · go_simp
      refine hK.out _ _ ?_ (fun hHd1 => ?_)
      · (try dsimp only); first | (with_reducible assumption) | ((with_reducible refine one_setd ?_ _ _ _ _ _ ?_); (with_reducible assumption); omega) | ((with_reducible refine one_setdd ?_ _ _ _ _ _ ?_); (with_reducible assumption); omega)
      clear hK K hHd0
      (try simp only [Act.put]); (try simp only [List.setIfInBounds_toArray]); (try simp only [List.set_cons_succ, List.set_cons_zero])
      refine wpAnyH_ready (rs := [3]) (by kernel_rfl) (by simp) ?_
      refine AllReadyH.cons (o := _) rfl (fun K hK => ?_) ?_
      · go_simp
        refine hK.out _ _ ?_ (fun hHd2 => ?_)
        · (try dsimp only); first | (with_reducible assumption) | ((with_reducible refine one_setd ?_ _ _ _ _ _ ?_); (with_reducible assumption); omega) | ((with_reducible refine one_setdd ?_ _ _ _ _ _ ?_); (with_reducible assumption); omega)
        clear hK K hHd1
        (try simp only [Act.put]); (try simp only [List.setIfInBounds_toArray]); (try simp only [List.set_cons_succ, List.set_cons_zero])
        refine wpAnyH_done (by kernel_rfl) ?_ _
        refine NoPanic.normal ?_
        have D0 := d0
        have D1 := d1
        have D2 := d2
        have D3 := d3
        have E0 := e0
        have E1 := e1
        have E2 := e2
        have E3 := e3
        go_wp2
        refine bodyPost_ret (v := .tuple #[.agg #[.int .i64 t.op, .string (bstr t.name), .int .i64 t.sort, .slice A2 t.args.length c2], .agg #[.int .i64 t.op, .string (bstr t.name), .int .i64 t.sort, .slice A2 t.args.length c2]]) (by simp [results, Try.results6, go_sem, D0, D1, D2, D3, E0, E1, E2, E3]) rfl ?_
        first | exact two_fin hz1 HH3.out HH3.out (by omega) (by omega) (raw_sub HT.out.2 (by omega)) (raw_sub HT.out.2 (by omega)) HB3.out _ _ _ _ _ _ _ _ | exact two_fin' hz1 HH3.out HH3.out (by omega) (by omega) (raw_sub HT.out.2 (by omega)) (raw_sub HT.out.2 (by omega)) HB3.out _ _ _ _ _ _ _ _
      exact AllReadyH.nil
    exact AllReadyH.nil
  | false =>
    have HCd : Hid (Cur W0.heap.size W0 (.slice A n cap) n g w3.drew) := Lib.hid (HS3.out.1.keep (Below.refl _ _).drew (by omega))
    go_wp2_with fail
    refine wp_region_noPanic ?_
    refine wp_region_held_drew (S := (fun w' => w'.cell? ⟨w2.heap.size, 0, none⟩ = some (.int .i64 t.op) ∧ w'.cell? ⟨w2.heap.size, 1, none⟩ = some (.string (bstr t.name)) ∧ w'.cell? ⟨w2.heap.size, 2, none⟩ = some (.int .i64 t.sort) ∧ w'.cell? ⟨w2.heap.size, 3, none⟩ = some (.slice A2 t.args.length c2))) (by kernel_rfl) ?_ (fun hHd0 => ?_)
    · refine ⟨?_, ?_, ?_, ?_⟩ <;> assumption
    refine wpAnyH_take (i := 0) (v := ?_) rfl (by kernel_rfl) (by kernel_rfl) (by kernel_rfl) (fun _ _ _ h => h) (Or.inl ⟨by rfl, ?_⟩) (by with_reducible assumption) ?_
    rotate_left
    · intro w hSw; (try dsimp only at hSw); go_simp <;> with_reducible rfl
    (try simp only [Act.put]); (try simp only [List.setIfInBounds_toArray]); (try simp only [List.set_cons_succ, List.set_cons_zero])
    refine wpAnyH_take (i := 1) (v := ?_) rfl (by kernel_rfl) (by kernel_rfl) (by kernel_rfl) (fun _ _ _ h => h) (Or.inl ⟨by rfl, ?_⟩) (by with_reducible assumption) ?_
    rotate_left
    · intro w hSw; (try dsimp only at hSw); go_simp <;> with_reducible rfl
    (try simp only [Act.put]); (try simp only [List.setIfInBounds_toArray]); (try simp only [List.set_cons_succ, List.set_cons_zero])
    refine wpAnyH_ready (rs := [2]) (by kernel_rfl) (by simp) ?_
    refine AllReadyH.cons (o := _) rfl (fun K hK => ?_) ?_
    · (go_simp; refine (HRA.out 2 (by omega) g w3.drew HCd.out).mono ?_; rintro e w5 ⟨x, vx, rfl, hhx, hrx, hs5⟩; obtain ⟨A5, c5, rfl, _⟩ := HasR.shape hhx rfl; have HHX := Lib.hid (And.intro hhx hrx); have HS5 := Lib.hid hs5; have hS5 := (box_grown (box_below HX3.out.2 (Below.refl _ _).drew) hs5.2 (by omega)).cells.1; obtain ⟨⟨d0, d1, d2, d3⟩, g0, g1, g2, g3⟩ := (box_grown (box_below HX3.out.1.1 (Below.refl _ _).drew) hs5.2 (by omega)).cells; obtain ⟨⟨e0, e1, e2, e3⟩, f0, f1, f2, f3⟩ := (box_grown (box_below HX3.out.1.2 (Below.refl _ _).drew) hs5.2 (by omega)).cells; have hz5 : w3.heap.size ≤ w5.heap.size := hs5.2.size; clear hhx hrx hs5; (try dsimp only))
      refine hK.out _ _ ?_ (fun hHd1 => ?_)
      · (try dsimp only); first | (with_reducible assumption) | ((with_reducible refine one_setd ?_ _ _ _ _ _ ?_); (with_reducible assumption); omega) | ((with_reducible refine one_setdd ?_ _ _ _ _ _ ?_); (with_reducible assumption); omega)
      clear hK K hHd0
      (try simp only [Act.put]); (try simp only [List.setIfInBounds_toArray]); (try simp only [List.set_cons_succ, List.set_cons_zero])
      refine wpAnyH_ready (rs := [3]) (by kernel_rfl) (by simp) ?_
      refine AllReadyH.cons (o := _) rfl (fun K hK => ?_) ?_
      · go_simp
        refine hK.out _ _ ?_ (fun hHd2 => ?_)
        · (try dsimp only); first | (with_reducible assumption) | ((with_reducible refine one_setd ?_ _ _ _ _ _ ?_); (with_reducible assumption); omega) | ((with_reducible refine one_setdd ?_ _ _ _ _ _ ?_); (with_reducible assumption); omega)
        clear hK K hHd1
        (try simp only [Act.put]); (try simp only [List.setIfInBounds_toArray]); (try simp only [List.set_cons_succ, List.set_cons_zero])
        refine wpAnyH_ready (rs := [4]) (by kernel_rfl) (by simp) ?_
        refine AllReadyH.cons (o := _) rfl (fun K hK => ?_) ?_
        · go_simp
          refine hK.out _ _ ?_ (fun hHd3 => ?_)
          · (try dsimp only); first | (with_reducible assumption) | ((with_reducible refine one_setd ?_ _ _ _ _ _ ?_); (with_reducible assumption); omega) | ((with_reducible refine one_setdd ?_ _ _ _ _ _ ?_); (with_reducible assumption); omega)
          clear hK K hHd2
          (try simp only [Act.put]); (try simp only [List.setIfInBounds_toArray]); (try simp only [List.set_cons_succ, List.set_cons_zero])
          refine wpAnyH_done (by kernel_rfl) ?_ _
          refine NoPanic.normal ?_
          have D0 := d0
          have D1 := d1
          have D2 := d2
          have D3 := d3
          have E0 := e0
          have E1 := e1
          have E2 := e2
          have E3 := e3
          have HQ : Hid (HasTs 2 w1.heap.size w5 (.slice A2 t.args.length c2) t.args ∧ HasTs 2 w1.heap.size w5 (.slice A5 x.args.length c5) x.args ∧ Below w.heap.size w w5) := Lib.hid ⟨HasR.kept (RT_steady 2) HH3.out ((Kept.below (Below.refl _ _).drew (Nat.le_refl _)).trans (Kept.grown HS5.out.2 hgl)), HasR.mono (RT_steady _) HHX.out.1 (by show w1.heap.size ≤ w3.heap.size; omega),
            ((HB3.out).trans ((Below.refl _ _).drew)).trans (HS5.out.below (by omega) (by show _ ≤ w3.heap.size; omega))⟩
          go_wp2
          refine bodyPost_ret (v := .tuple #[.agg #[.int .i64 t.op, .string (bstr t.name), .int .i64 t.sort, .slice A2 t.args.length c2], .agg #[.int .i64 x.op, .string (bstr x.name), .int .i64 x.sort, .slice A5 x.args.length c5]]) (by simp [results, Try.results6, go_sem, D0, D1, D2, D3, E0, E1, E2, E3]) rfl ?_
          first | exact two_fin' hz1 HQ.out.1 HQ.out.2.1 (by omega) (by omega) (raw_sub HT.out.2 (by omega)) (raw_sub HHX.out.2 (by omega)) HQ.out.2.2 _ _ _ _ _ _ _ _ | exact two_fin hz1 HQ.out.1 HQ.out.2.1 (by omega) (by omega) (raw_sub HT.out.2 (by omega)) (raw_sub HHX.out.2 (by omega)) HQ.out.2.2 _ _ _ _ _ _ _ _
        exact AllReadyH.nil
      exact AllReadyH.nil
    exact AllReadyH.nil
end Go.Proofs.Ytkkmjaggebjcbaa.drawc
