/-
  THE WALK OF FnExactCompareOccurrences.
-/
import Derived.Test.YtiilamngcoegiaaOccop
import Derived.Test.YtiilamngcoegiaaOccs
import Derived.Test.YtiilamngcoegiaaOccc
namespace Go.Proofs.Ytiilamngcoegiaa.fnExactCompareOccurrences
open Go.ChangeShapes Go.WideShapes Go.ChangeAt Go.RowKit
open mem setm rowl trm trmv terml termb termt termu termx bndl bndt occm occs occc

abbrev Four (x : Nat) (v0 v1 v2 v3 : Value) (w : World) : Prop := w.cell? ⟨x, 0, none⟩ = some v0 ∧ w.cell? ⟨x, 1, none⟩ = some v1 ∧ w.cell? ⟨x, 2, none⟩ = some v2 ∧ w.cell? ⟨x, 3, none⟩ = some v3
set_option maxHeartbeats 8000000 in
set_option maxRecDepth 100000 in
theorem go {n : Nat} (o p : OccM) (v0 v1 v2 v3 u0 u1 u2 u3 : Value) (w : World) (h : HasOc n 0 w v0 v1 v2 v3 o) (h' : HasOc n 0 w u0 u1 u2 u3 p) :
    Calls Try.prog 3 #[.agg #[v0, v1, v2, v3], .agg #[u0, u1, u2, u3]] w fun e w' => e = .returned (.bool true) ∧ Below w.heap.size w w' := by
  have HSA := Lib.hid (fun W (hW : Below w.heap.size w W) r (h0 : 0 ≤ r) (h1 : r ≤ 1048576) => szO_any o v0 v1 v2 v3 W (h.kept (Kept.below hW (Nat.le_refl _))) r h0 h1)
  have HSB := Lib.hid (fun W (hW : Below w.heap.size w W) r (h0 : 0 ≤ r) (h1 : r ≤ 1048576) => szO_any p u0 u1 u2 u3 W (h'.kept (Kept.below hW (Nat.le_refl _))) r h0 h1)
  have HTA := Lib.hid (fun W (hW : Below w.heap.size w W) (hs : osz o ≤ 1048576) => toO_any o v0 v1 v2 v3 W (h.kept (Kept.below hW (Nat.le_refl _))) hs)
  have HTB := Lib.hid (fun W (hW : Below w.heap.size w W) (hs : osz p ≤ 1048576) => toO_any p u0 u1 u2 u3 W (h'.kept (Kept.below hW (Nat.le_refl _))) hs)
  obtain ⟨z, hz⟩ : ∃ z, z = cmpO o p := ⟨_, rfl⟩
  have HSP := Lib.hid (fun a0 a1 a2 a3 b0 b1 b2 b3 W l l' (h1 : HasOc (n + 1) l W a0 a1 a2 a3 o) (h2 : HasOc (n + 1) l' W b0 b1 b2 b3 p) => sCompareO_any o p a0 a1 a2 a3 b0 b1 b2 b3 W h1 h2)
  have HIM := Lib.hid (fun a0 a1 a2 a3 b0 b1 b2 b3 W l l' (h1 : HasOc (n + 1) l W a0 a1 a2 a3 o) (h2 : HasOc (n + 1) l' W b0 b1 b2 b3 p) (hs : osz o ≤ 1048576) => iCompareO_any o p a0 a1 a2 a3 b0 b1 b2 b3 W h1 h2 hs)
  have HEA := Lib.hid (fun a0 a1 a2 a3 b0 b1 b2 b3 W l l' (h1 : HasOc (n + 1) l W a0 a1 a2 a3 o) (h2 : HasOc (n + 1) l' W b0 b1 b2 b3 o) => eqO_any o a0 a1 a2 a3 b0 b1 b2 b3 W h1 h2)
  have HEB := Lib.hid (fun a0 a1 a2 a3 b0 b1 b2 b3 W l l' (h1 : HasOc (n + 1) l W a0 a1 a2 a3 p) (h2 : HasOc (n + 1) l' W b0 b1 b2 b3 p) => eqO_any p a0 a1 a2 a3 b0 b1 b2 b3 W h1 h2)
  have HHA : Hid (∀ {W l a0 a1 a2 a3}, HasOc (n + 1) l W a0 a1 a2 a3 o → ∃ A0 c0 A1 c1 A2 c2 A3 c3, a0 = .slice A0 o.path.length c0 ∧ a1 = .slice A1 o.left.length c1 ∧ a2 = .slice A2 o.right.length c2 ∧ a3 = .slice A3 o.m.length c3) := Lib.hid (fun h => h.shape)
  have HHB : Hid (∀ {W l a0 a1 a2 a3}, HasOc (n + 1) l W a0 a1 a2 a3 p → ∃ A0 c0 A1 c1 A2 c2 A3 c3, a0 = .slice A0 p.path.length c0 ∧ a1 = .slice A1 p.left.length c1 ∧ a2 = .slice A2 p.right.length c2 ∧ a3 = .slice A3 p.m.length c3) := Lib.hid (fun h => h.shape)
  obtain ⟨A0, c0, A1, c1, A2, c2, A3, c3, rfl, rfl, rfl, rfl⟩ := h.shape
  obtain ⟨B0, b0, B1, b1, B2, b2, B3, b3, rfl, rfl, rfl, rfl⟩ := h'.shape
  obtain ⟨k0, hk0⟩ : ∃ q, q = o.path.length := ⟨_, rfl⟩
  obtain ⟨m0, hm0⟩ : ∃ q, q = p.path.length := ⟨_, rfl⟩
  obtain ⟨k1, hk1⟩ : ∃ q, q = o.left.length := ⟨_, rfl⟩
  obtain ⟨m1, hm1⟩ : ∃ q, q = p.left.length := ⟨_, rfl⟩
  obtain ⟨k2, hk2⟩ : ∃ q, q = o.right.length := ⟨_, rfl⟩
  obtain ⟨m2, hm2⟩ : ∃ q, q = p.right.length := ⟨_, rfl⟩
  obtain ⟨k3, hk3⟩ : ∃ q, q = o.m.length := ⟨_, rfl⟩
  obtain ⟨m3, hm3⟩ : ∃ q, q = p.m.length := ⟨_, rfl⟩
  rw [← hk0, ← hk1, ← hk2, ← hk3] at HSA HTA HHA ⊢
  rw [← hm0, ← hm1, ← hm2, ← hm3] at HSB HTB HHB ⊢
  rw [← hz] at HSP HIM
  obtain ⟨so, hso⟩ : ∃ q, q = osz o := ⟨_, rfl⟩
  obtain ⟨sp, hsp⟩ : ∃ q, q = osz p := ⟨_, rfl⟩
  rw [← hso] at HSA HTA HIM
  rw [← hsp] at HSB HTB
  obtain ⟨W, hW⟩ : ∃ W, W = (w.alloc (.cells #[.slice A0 k0 c0, .slice A1 k1 c1, .slice A2 k2 c2, .slice A3 k3 c3] 26)).alloc (.cells #[.slice B0 m0 b0, .slice B1 m1 b1, .slice B2 m2 b2, .slice B3 m3 b3] 26) := ⟨_, rfl⟩
  have hb0 : Below w.heap.size w W := by rw [hW]; exact ((Below.refl _ _).alloc (Nat.le_refl _) _).alloc (by simp) _
  have hp : W.heap[w.heap.size]? = some (.cells #[.slice A0 k0 c0, .slice A1 k1 c1, .slice A2 k2 c2, .slice A3 k3 c3] 26 (0, 0)) := by rw [hW]; exact (Below.heap_alloc _ _ _ (by simp)).trans (heap_at _ _ _ rfl)
  have hq : W.heap[w.heap.size + 1]? = some (.cells #[.slice B0 m0 b0, .slice B1 m1 b1, .slice B2 m2 b2, .slice B3 m3 b3] 26 (0, 0)) := by rw [hW]; exact heap_at _ _ _ (by simp)
  have hp2 := (Array.getElem?_eq_some_iff.1 hp).1
  have hq2 := (Array.getElem?_eq_some_iff.1 hq).1
  have FC : Hid (∀ X, Below W.heap.size W X → Below w.heap.size w X ∧ Four w.heap.size (.slice A0 k0 c0) (.slice A1 k1 c1) (.slice A2 k2 c2) (.slice A3 k3 c3) X ∧ Four (w.heap.size + 1) (.slice B0 m0 b0) (.slice B1 m1 b1) (.slice B2 m2 b2) (.slice B3 m3 b3) X) := Lib.hid (fun X hX => ⟨hb0.trans (hX.mono hb0.size), four4 ((hX.block _ hp2).trans hp), four4 ((hX.block _ hq2).trans hq)⟩)
  have HK0 := Lib.hid (Below.refl W.heap.size W)
  obtain ⟨_, ⟨x0, x1, x2, x3⟩, y0, y1, y2, y3⟩ := FC.out W HK0.out
  clear h h' hz hk0 hk1 hk2 hk3 hm0 hm1 hm2 hm3 hso hsp hb0 hp hq hp2 hq2
  go_enter Try.func3, Try.ntmps3
  go_wp2_with fail
  rw [← hW]
  clear hW
  refine (HSA.out _ (FC.out W HK0.out).1 1048576 (by omega) (by omega)).mono ?_
  rintro e w1 ⟨r, rfl, hr, hr1, hr2, hb1⟩
  have HK1 : Hid (Below W.heap.size W w1) := Lib.hid hb1
  clear hb1 x0 x1 x2 x3 y0 y1 y2 y3
  obtain ⟨_, ⟨x0, x1, x2, x3⟩, y0, y1, y2, y3⟩ := FC.out w1 HK1.out
  have HR := Lib.hid hr
  clear hr HSA
  by_cases hneg : r < 0
  · go_wp2
    go_ret
    exact ⟨rfl, (FC.out w1 HK1.out).1⟩
  go_wp2_with fail
  refine (HSB.out _ (FC.out w1 HK1.out).1 r (by omega) hr2).mono ?_
  rintro e w2 ⟨r2, rfl, hs, hs1, hs2, hb2⟩
  have HK2 : Hid (Below W.heap.size W w2) := Lib.hid (HK1.out.trans (hb2.mono HK1.out.size))
  have HS := Lib.hid hs
  clear hb2 x0 x1 x2 x3 y0 y1 y2 y3 hs HSB HK1
  by_cases hneg2 : r2 < 0
  · go_wp2
    go_ret
    exact ⟨rfl, (FC.out w2 HK2.out).1⟩
  have HSM := Lib.hid (And.intro (show so ≤ 1048576 by have := HR.out (by omega); omega) (show sp ≤ 1048576 by have := HS.out (by omega); omega))
  clear HR HS hr1 hr2 hs1 hs2
  go_wp2_with fail
  refine wp_region_noPanic ?_
  refine wp_region_held_drew (S := (fun X => Four w.heap.size (.slice A0 k0 c0) (.slice A1 k1 c1) (.slice A2 k2 c2) (.slice A3 k3 c3) X ∧ Four (w.heap.size + 1) (.slice B0 m0 b0) (.slice B1 m1 b1) (.slice B2 m2 b2) (.slice B3 m3 b3) X)) (by kernel_rfl) ?_ (fun hHd0 => ?_)
  · exact (FC.out _ HK2.out.drew).2
  refine wpAnyH_take (i := 0) (v := ?_) rfl (by kernel_rfl) (by kernel_rfl) (by kernel_rfl) (fun _ _ _ h => h) (Or.inl ⟨by rfl, ?_⟩) (by with_reducible assumption) ?_
  rotate_left
  · intro w hSw; (try dsimp only at hSw); go_simp <;> with_reducible rfl
  (try simp only [Act.put]); (try simp only [List.setIfInBounds_toArray]); (try simp only [List.set_cons_succ, List.set_cons_zero])
  refine wpAnyH_take (i := 2) (v := ?_) rfl (by kernel_rfl) (by kernel_rfl) (by kernel_rfl) (fun _ _ _ h => h) (Or.inl ⟨by rfl, ?_⟩) (by with_reducible assumption) ?_
  rotate_left
  · intro w hSw; (try dsimp only at hSw); go_simp <;> with_reducible rfl
  (try simp only [Act.put]); (try simp only [List.setIfInBounds_toArray]); (try simp only [List.set_cons_succ, List.set_cons_zero])
  refine wpAnyH_ready (rs := [1]) (by kernel_rfl) (by simp) ?_
  refine AllReadyH.cons (o := _) rfl (fun K hK => ?_) ?_
  · (go_simp; refine (HTA.out w2.drew (FC.out w2.drew HK2.out.drew).1 HSM.out.1).mono ?_; rintro e w3 ⟨a0, a1, a2, a3, rfl, ho3, hb3⟩; obtain ⟨D0, d0, D1, d1, D2, d2, D3, d3, rfl, rfl, rfl, rfl⟩ := HHA.out ho3; have hK3 : Below W.heap.size W w3 := HK2.out.drew.trans (hb3.mono HK2.out.drew.size); have hX3 := (show (fun X => Four w.heap.size (.slice A0 k0 c0) (.slice A1 k1 c1) (.slice A2 k2 c2) (.slice A3 k3 c3) X ∧ Four (w.heap.size + 1) (.slice B0 m0 b0) (.slice B1 m1 b1) (.slice B2 m2 b2) (.slice B3 m3 b3) X) w3 from (FC.out w3 hK3).2); (try dsimp only))
    refine hK.out _ _ ?_ (fun hHd1 => ?_)
    · (try dsimp only); first | (with_reducible assumption) | (exact hX3) | (exact hX4) | (exact hX5)
    clear hK K hHd0
    (try simp only [Act.put]); (try simp only [List.setIfInBounds_toArray]); (try simp only [List.set_cons_succ, List.set_cons_zero])
    refine wpAnyH_ready (rs := [3]) (by kernel_rfl) (by simp) ?_
    refine AllReadyH.cons (o := _) rfl (fun K hK => ?_) ?_
    · (go_simp; refine (HTB.out w3 (FC.out w3 hK3).1 HSM.out.2).mono ?_; rintro e w4 ⟨a0, a1, a2, a3, rfl, ho4, hb4⟩; obtain ⟨E0, e0, E1, e1, E2, e2, E3, e3, rfl, rfl, rfl, rfl⟩ := HHB.out ho4; have hK4 : Below W.heap.size W w4 := hK3.trans (hb4.mono hK3.size); have ho34 := ho3.below hb4; have hX4 := (show (fun X => Four w.heap.size (.slice A0 k0 c0) (.slice A1 k1 c1) (.slice A2 k2 c2) (.slice A3 k3 c3) X ∧ Four (w.heap.size + 1) (.slice B0 m0 b0) (.slice B1 m1 b1) (.slice B2 m2 b2) (.slice B3 m3 b3) X) w4 from (FC.out w4 hK4).2); (try dsimp only))
      refine hK.out _ _ ?_ (fun hHd2 => ?_)
      · (try dsimp only); first | (with_reducible assumption) | (exact hX3) | (exact hX4) | (exact hX5)
      clear hK K hHd1
      (try simp only [Act.put]); (try simp only [List.setIfInBounds_toArray]); (try simp only [List.set_cons_succ, List.set_cons_zero])
      refine wpAnyH_ready (rs := [4]) (by kernel_rfl) (by simp) ?_
      refine AllReadyH.cons (o := _) rfl (fun K hK => ?_) ?_
      · (go_simp; refine (HSP.out _ _ _ _ _ _ _ _ w4 _ _ ho34 ho4).mono ?_; rintro e w5 ⟨rfl, hb5⟩; have hK5 : Below W.heap.size W w5 := hK4.trans (hb5.mono hK4.size); have hX5 := (show (fun X => Four w.heap.size (.slice A0 k0 c0) (.slice A1 k1 c1) (.slice A2 k2 c2) (.slice A3 k3 c3) X ∧ Four (w.heap.size + 1) (.slice B0 m0 b0) (.slice B1 m1 b1) (.slice B2 m2 b2) (.slice B3 m3 b3) X) w5 from (FC.out w5 hK5).2); (try dsimp only))
        refine hK.out _ _ ?_ (fun hHd3 => ?_)
        · (try dsimp only); first | (with_reducible assumption) | (exact hX3) | (exact hX4) | (exact hX5)
        clear hK K hHd2
        (try simp only [Act.put]); (try simp only [List.setIfInBounds_toArray]); (try simp only [List.set_cons_succ, List.set_cons_zero])
        refine wpAnyH_ready (rs := [5]) (by kernel_rfl) (by simp) ?_
        refine AllReadyH.cons (o := _) rfl (fun K hK => ?_) ?_
        · go_simp
          refine hK.out _ _ ?_ (fun hHd4 => ?_)
          · (try dsimp only); first | (with_reducible assumption) | (exact hX3) | (exact hX4) | (exact hX5)
          clear hK K hHd3
          (try simp only [Act.put]); (try simp only [List.setIfInBounds_toArray]); (try simp only [List.set_cons_succ, List.set_cons_zero])
          refine wpAnyH_done (by kernel_rfl) ?_ _
          refine NoPanic.normal ?_
          have HK5 := Lib.hid hK5
          clear hX3 hX4 hX5 hK3 hK4 hK5 hb3 hb4 hb5 ho3 ho4 ho34 HSP
          obtain ⟨_, ⟨x0, x1, x2, x3⟩, _⟩ := FC.out w5 HK5.out
          go_wp2_with fail
          refine (HTA.out w5 (FC.out w5 HK5.out).1 HSM.out.1).mono ?_
          rintro e w6 ⟨a0, a1, a2, a3, rfl, ho6, hb6⟩
          obtain ⟨F0, f0, F1, f1, F2, f2, F3, f3, rfl, rfl, rfl, rfl⟩ := HHA.out ho6
          have hK6 := HK5.out.trans (hb6.mono HK5.out.size)
          have HK6 := Lib.hid hK6
          have HO6 := Lib.hid ho6
          have hyy := fun ob => (FC.out (w6.alloc ob) (hK6.alloc hK6.size ob)).2.2
          have y0 := fun ob => (hyy ob).1
          have y1 := fun ob => (hyy ob).2.1
          have y2 := fun ob => (hyy ob).2.2.1
          have y3 := fun ob => (hyy ob).2.2.2
          clear ho6 hb6 x0 x1 x2 x3 hyy hK6
          go_wp2_with fail
          clear y0 y1 y2 y3
          obtain ⟨W7, hW7⟩ : ∃ X, X = w6.alloc (.cells #[.slice F0 k0 f0, .slice F1 k1 f1, .slice F2 k2 f2, .slice F3 k3 f3] 32) := ⟨_, rfl⟩
          have hb7 : Below w6.heap.size w6 W7 := by rw [hW7]; exact (Below.refl _ _).alloc (Nat.le_refl _) _
          have HX7 := Lib.hid (show W7.heap[w6.heap.size]? = some (.cells #[.slice F0 k0 f0, .slice F1 k1 f1, .slice F2 k2 f2, .slice F3 k3 f3] 32 (0, 0)) by rw [hW7]; exact heap_at _ _ _ rfl)
          have HK7 := Lib.hid (HK6.out.trans (hb7.mono HK6.out.size))
          have HO7 := Lib.hid (HO6.out.below hb7)
          rw [← hW7]
          clear hW7 hb7 HO6 HK6
          refine (HTB.out W7 (FC.out W7 HK7.out).1 HSM.out.2).mono ?_
          rintro e w8 ⟨a0, a1, a2, a3, rfl, ho8, hb8⟩
          obtain ⟨G0, g0, G1, g1, G2, g2, G3, g3, rfl, rfl, rfl, rfl⟩ := HHB.out ho8
          have HK8 := Lib.hid (HK7.out.trans (hb8.mono HK7.out.size))
          have HO78 := Lib.hid (HO7.out.below hb8)
          have HO8 := Lib.hid ho8
          have h67 : w6.heap.size < w8.heap.size := Nat.lt_of_lt_of_le (Array.getElem?_eq_some_iff.1 HX7.out).1 hb8.size
          have hX8 : ∀ ob, (w8.alloc ob).heap[w6.heap.size]? = some (.cells #[.slice F0 k0 f0, .slice F1 k1 f1, .slice F2 k2 f2, .slice F3 k3 f3] 32 (0, 0)) := fun ob => (Below.heap_alloc _ _ _ h67).trans ((hb8.block _ (Array.getElem?_eq_some_iff.1 HX7.out).1).trans HX7.out)
          have HX8 := Lib.hid hX8
          have y0 := fun ob => (four4 (hX8 ob)).1
          have y1 := fun ob => (four4 (hX8 ob)).2.1
          have y2 := fun ob => (four4 (hX8 ob)).2.2.1
          have y3 := fun ob => (four4 (hX8 ob)).2.2.2
          have hne : w6.heap.size ≠ w8.heap.size := by omega
          clear ho8 hb8 hX8 HX7 HO7 HK7
          go_wp2_with fail
          clear y0 y1 y2 y3
          obtain ⟨V, hV⟩ : ∃ X, X = w8.alloc (.cells #[.slice G0 m0 g0, .slice G1 m1 g1, .slice G2 m2 g2, .slice G3 m3 g3] 32) := ⟨_, rfl⟩
          have hb9 : Below w8.heap.size w8 V := by rw [hV]; exact (Below.refl _ _).alloc (Nat.le_refl _) _
          have hx9 : V.heap[w6.heap.size]? = some (.cells #[.slice F0 k0 f0, .slice F1 k1 f1, .slice F2 k2 f2, .slice F3 k3 f3] 32 (0, 0)) := by rw [hV]; exact HX8.out _
          have hy9 : V.heap[w8.heap.size]? = some (.cells #[.slice G0 m0 g0, .slice G1 m1 g1, .slice G2 m2 g2, .slice G3 m3 g3] 32 (0, 0)) := by rw [hV]; exact heap_at _ _ _ rfl
          have hK9 := HK8.out.trans (hb9.mono HK8.out.size)
          rw [← hV]
          have GC : Hid (∀ X, Below V.heap.size V X → Below w.heap.size w X ∧ Four w.heap.size (.slice A0 k0 c0) (.slice A1 k1 c1) (.slice A2 k2 c2) (.slice A3 k3 c3) X ∧ Four (w.heap.size + 1) (.slice B0 m0 b0) (.slice B1 m1 b1) (.slice B2 m2 b2) (.slice B3 m3 b3) X ∧ Four w6.heap.size (.slice F0 k0 f0) (.slice F1 k1 f1) (.slice F2 k2 f2) (.slice F3 k3 f3) X ∧ Four w8.heap.size (.slice G0 m0 g0) (.slice G1 m1 g1) (.slice G2 m2 g2) (.slice G3 m3 g3) X ∧ HasOc (n + 1) w5.heap.size X (.slice F0 k0 f0) (.slice F1 k1 f1) (.slice F2 k2 f2) (.slice F3 k3 f3) o ∧ HasOc (n + 1) W7.heap.size X (.slice G0 m0 g0) (.slice G1 m1 g1) (.slice G2 m2 g2) (.slice G3 m3 g3) p) := Lib.hid (fun X hX => by
            have hF := FC.out X (hK9.trans (hX.mono hK9.size))
            have h8X := hb9.trans (hX.mono hb9.size)
            exact ⟨hF.1, hF.2.1, hF.2.2, four4 ((hX.block _ (Array.getElem?_eq_some_iff.1 hx9).1).trans hx9), four4 ((hX.block _ (Array.getElem?_eq_some_iff.1 hy9).1).trans hy9), HO78.out.below h8X, HO8.out.below h8X⟩)
          have HV9 := Lib.hid (Below.refl V.heap.size V)
          clear hV hb9 hx9 hy9 hK9 HX8 HO78 HO8 HK8 FC h67 hne
          refine (HIM.out _ _ _ _ _ _ _ _ V _ _ (GC.out V HV9.out).2.2.2.2.2.1 (GC.out V HV9.out).2.2.2.2.2.2 HSM.out.1).mono ?_
          rintro e w10 ⟨rfl, hb10⟩
          have HV10 : Hid (Below V.heap.size V w10) := Lib.hid hb10
          have nz : (z != z) = false := by simp
          have GS : ∀ X, Below V.heap.size V X → (fun X => Four w6.heap.size (.slice F0 k0 f0) (.slice F1 k1 f1) (.slice F2 k2 f2) (.slice F3 k3 f3) X ∧ Four w.heap.size (.slice A0 k0 c0) (.slice A1 k1 c1) (.slice A2 k2 c2) (.slice A3 k3 c3) X) X := fun X hX => ⟨(GC.out X hX).2.2.2.1, (GC.out X hX).2.1⟩
          clear hb10 HIM HV9
          go_wp2_with fail
          refine wp_region_noPanic ?_
          refine wp_region_held_drew (S := (fun X => Four w6.heap.size (.slice F0 k0 f0) (.slice F1 k1 f1) (.slice F2 k2 f2) (.slice F3 k3 f3) X ∧ Four w.heap.size (.slice A0 k0 c0) (.slice A1 k1 c1) (.slice A2 k2 c2) (.slice A3 k3 c3) X)) (by kernel_rfl) ?_ (fun hHd0 => ?_)
          · exact GS _ HV10.out.drew
          refine wpAnyH_take (i := 0) (v := ?_) rfl (by kernel_rfl) (by kernel_rfl) (by kernel_rfl) (fun _ _ _ h => h) (Or.inl ⟨by rfl, ?_⟩) (by with_reducible assumption) ?_
          rotate_left
          · intro w hSw; (try dsimp only at hSw); go_simp <;> with_reducible rfl
          (try simp only [Act.put]); (try simp only [List.setIfInBounds_toArray]); (try simp only [List.set_cons_succ, List.set_cons_zero])
          refine wpAnyH_take (i := 1) (v := ?_) rfl (by kernel_rfl) (by kernel_rfl) (by kernel_rfl) (fun _ _ _ h => h) (Or.inl ⟨by rfl, ?_⟩) (by with_reducible assumption) ?_
          rotate_left
          · intro w hSw; (try dsimp only at hSw); go_simp <;> with_reducible rfl
          (try simp only [Act.put]); (try simp only [List.setIfInBounds_toArray]); (try simp only [List.set_cons_succ, List.set_cons_zero])
          refine wpAnyH_ready (rs := [2]) (by kernel_rfl) (by simp) ?_
          refine AllReadyH.cons (o := _) rfl (fun K hK => ?_) ?_
          · (go_simp; refine (HTA.out w10.drew (GC.out w10.drew HV10.out.drew).1 HSM.out.1).mono ?_; rintro e w11 ⟨a0, a1, a2, a3, rfl, ho11, hb11⟩; obtain ⟨D0, d0, D1, d1, D2, d2, D3, d3, rfl, rfl, rfl, rfl⟩ := HHA.out ho11; have hV11 : Below V.heap.size V w11 := HV10.out.drew.trans (hb11.mono HV10.out.drew.size); have hX11 := (show (fun X => Four w6.heap.size (.slice F0 k0 f0) (.slice F1 k1 f1) (.slice F2 k2 f2) (.slice F3 k3 f3) X ∧ Four w.heap.size (.slice A0 k0 c0) (.slice A1 k1 c1) (.slice A2 k2 c2) (.slice A3 k3 c3) X) w11 from GS w11 hV11); (try dsimp only))
            refine hK.out _ _ ?_ (fun hHd1 => ?_)
            · (try dsimp only); first | (with_reducible assumption) | (exact hX11) | (exact hX12)
            clear hK K hHd0
            (try simp only [Act.put]); (try simp only [List.setIfInBounds_toArray]); (try simp only [List.set_cons_succ, List.set_cons_zero])
            refine wpAnyH_ready (rs := [3]) (by kernel_rfl) (by simp) ?_
            refine AllReadyH.cons (o := _) rfl (fun K hK => ?_) ?_
            · (go_simp; refine (HEA.out _ _ _ _ _ _ _ _ w11 _ _ (GC.out w11 hV11).2.2.2.2.2.1 ho11).mono ?_; rintro e w12 ⟨rfl, hb12⟩; have hV12 : Below V.heap.size V w12 := hV11.trans (hb12.mono hV11.size); have hX12 := (show (fun X => Four w6.heap.size (.slice F0 k0 f0) (.slice F1 k1 f1) (.slice F2 k2 f2) (.slice F3 k3 f3) X ∧ Four w.heap.size (.slice A0 k0 c0) (.slice A1 k1 c1) (.slice A2 k2 c2) (.slice A3 k3 c3) X) w12 from GS w12 hV12); (try dsimp only))
              refine hK.out _ _ ?_ (fun hHd2 => ?_)
              · (try dsimp only); first | (with_reducible assumption) | (exact hX11) | (exact hX12)
              clear hK K hHd1
              (try simp only [Act.put]); (try simp only [List.setIfInBounds_toArray]); (try simp only [List.set_cons_succ, List.set_cons_zero])
              refine wpAnyH_ready (rs := [4]) (by kernel_rfl) (by simp) ?_
              refine AllReadyH.cons (o := _) rfl (fun K hK => ?_) ?_
              · go_simp
                refine hK.out _ _ ?_ (fun hHd3 => ?_)
                · (try dsimp only); first | (with_reducible assumption) | (exact hX11) | (exact hX12)
                clear hK K hHd2
                (try simp only [Act.put]); (try simp only [List.setIfInBounds_toArray]); (try simp only [List.set_cons_succ, List.set_cons_zero])
                refine wpAnyH_done (by kernel_rfl) ?_ _
                refine NoPanic.normal ?_
                have HV12 := Lib.hid hV12
                clear hX11 hX12 hb11 hb12 hV11 hV12
                have GS : ∀ X, Below V.heap.size V X → (fun X => Four w8.heap.size (.slice G0 m0 g0) (.slice G1 m1 g1) (.slice G2 m2 g2) (.slice G3 m3 g3) X ∧ Four (w.heap.size + 1) (.slice B0 m0 b0) (.slice B1 m1 b1) (.slice B2 m2 b2) (.slice B3 m3 b3) X) X := fun X hX => ⟨(GC.out X hX).2.2.2.2.1, (GC.out X hX).2.2.1⟩
                go_wp2_with fail
                refine wp_region_noPanic ?_
                refine wp_region_held_drew (S := (fun X => Four w8.heap.size (.slice G0 m0 g0) (.slice G1 m1 g1) (.slice G2 m2 g2) (.slice G3 m3 g3) X ∧ Four (w.heap.size + 1) (.slice B0 m0 b0) (.slice B1 m1 b1) (.slice B2 m2 b2) (.slice B3 m3 b3) X)) (by kernel_rfl) ?_ (fun hHd0 => ?_)
                · exact GS _ HV12.out.drew
                refine wpAnyH_take (i := 0) (v := ?_) rfl (by kernel_rfl) (by kernel_rfl) (by kernel_rfl) (fun _ _ _ h => h) (Or.inl ⟨by rfl, ?_⟩) (by with_reducible assumption) ?_
                rotate_left
                · intro w hSw; (try dsimp only at hSw); go_simp <;> with_reducible rfl
                (try simp only [Act.put]); (try simp only [List.setIfInBounds_toArray]); (try simp only [List.set_cons_succ, List.set_cons_zero])
                refine wpAnyH_take (i := 1) (v := ?_) rfl (by kernel_rfl) (by kernel_rfl) (by kernel_rfl) (fun _ _ _ h => h) (Or.inl ⟨by rfl, ?_⟩) (by with_reducible assumption) ?_
                rotate_left
                · intro w hSw; (try dsimp only at hSw); go_simp <;> with_reducible rfl
                (try simp only [Act.put]); (try simp only [List.setIfInBounds_toArray]); (try simp only [List.set_cons_succ, List.set_cons_zero])
                refine wpAnyH_ready (rs := [2]) (by kernel_rfl) (by simp) ?_
                refine AllReadyH.cons (o := _) rfl (fun K hK => ?_) ?_
                · (go_simp; refine (HTB.out w12.drew (GC.out w12.drew HV12.out.drew).1 HSM.out.2).mono ?_; rintro e w13 ⟨a0, a1, a2, a3, rfl, ho13, hb13⟩; obtain ⟨D0, d0, D1, d1, D2, d2, D3, d3, rfl, rfl, rfl, rfl⟩ := HHB.out ho13; have hV13 : Below V.heap.size V w13 := HV12.out.drew.trans (hb13.mono HV12.out.drew.size); have hX13 := (show (fun X => Four w8.heap.size (.slice G0 m0 g0) (.slice G1 m1 g1) (.slice G2 m2 g2) (.slice G3 m3 g3) X ∧ Four (w.heap.size + 1) (.slice B0 m0 b0) (.slice B1 m1 b1) (.slice B2 m2 b2) (.slice B3 m3 b3) X) w13 from GS w13 hV13); (try dsimp only))
                  refine hK.out _ _ ?_ (fun hHd1 => ?_)
                  · (try dsimp only); first | (with_reducible assumption) | (exact hX13) | (exact hX14)
                  clear hK K hHd0
                  (try simp only [Act.put]); (try simp only [List.setIfInBounds_toArray]); (try simp only [List.set_cons_succ, List.set_cons_zero])
                  refine wpAnyH_ready (rs := [3]) (by kernel_rfl) (by simp) ?_
                  refine AllReadyH.cons (o := _) rfl (fun K hK => ?_) ?_
                  · (go_simp; refine (HEB.out _ _ _ _ _ _ _ _ w13 _ _ (GC.out w13 hV13).2.2.2.2.2.2 ho13).mono ?_; rintro e w14 ⟨rfl, hb14⟩; have hV14 : Below V.heap.size V w14 := hV13.trans (hb14.mono hV13.size); have hX14 := (show (fun X => Four w8.heap.size (.slice G0 m0 g0) (.slice G1 m1 g1) (.slice G2 m2 g2) (.slice G3 m3 g3) X ∧ Four (w.heap.size + 1) (.slice B0 m0 b0) (.slice B1 m1 b1) (.slice B2 m2 b2) (.slice B3 m3 b3) X) w14 from GS w14 hV14); (try dsimp only))
                    refine hK.out _ _ ?_ (fun hHd2 => ?_)
                    · (try dsimp only); first | (with_reducible assumption) | (exact hX13) | (exact hX14)
                    clear hK K hHd1
                    (try simp only [Act.put]); (try simp only [List.setIfInBounds_toArray]); (try simp only [List.set_cons_succ, List.set_cons_zero])
                    refine wpAnyH_ready (rs := [4]) (by kernel_rfl) (by simp) ?_
                    refine AllReadyH.cons (o := _) rfl (fun K hK => ?_) ?_
                    · go_simp
                      refine hK.out _ _ ?_ (fun hHd3 => ?_)
                      · (try dsimp only); first | (with_reducible assumption) | (exact hX13) | (exact hX14)
                      clear hK K hHd2
                      (try simp only [Act.put]); (try simp only [List.setIfInBounds_toArray]); (try simp only [List.set_cons_succ, List.set_cons_zero])
                      refine wpAnyH_done (by kernel_rfl) ?_ _
                      refine NoPanic.normal ?_
                      have HV14 := Lib.hid hV14
                      clear hX13 hX14 hb13 hb14 hV13 hV14
                      go_wp2
                      go_ret
                      exact ⟨rfl, (GC.out _ HV14.out).1⟩
                    exact AllReadyH.nil
                  exact AllReadyH.nil
                exact AllReadyH.nil
              exact AllReadyH.nil
            exact AllReadyH.nil
          exact AllReadyH.nil
        exact AllReadyH.nil
      exact AllReadyH.nil
    exact AllReadyH.nil
  exact AllReadyH.nil
set_option maxRecDepth 100000 in
theorem walk {H : Type} {enc : TypeId × Value → H} {W : World} {base base' : Nat} {v v' : Value} {d d' : DataW H} {p p' : List MemPlace}
    (hval : Value.okWide Try.prog W .any base 26 v) (hd : DataW.Trod enc Try.prog W 0 (fun _ => true) true 26 v d p) (_hlt : ∀ x ∈ p, x.block < W.heap.size)
    (hval' : Value.okWide Try.prog W .any base' 26 v') (hd' : DataW.Trod enc Try.prog W 0 (fun _ => true) true 26 v' d' p') (_hlt' : ∀ x ∈ p', x.block < W.heap.size) :
    Calls Try.prog 3 #[v, v'] W fun e w' => e = .returned (.bool true) ∧ Below W.heap.size W w' := by
  obtain ⟨n, v0, v1, v2, v3, o, rfl, h⟩ := occop.has_occ hval hd
  obtain ⟨m, u0, u1, u2, u3, q, rfl, h'⟩ := occop.has_occ hval' hd'
  exact go o q v0 v1 v2 v3 u0 u1 u2 u3 W (h.up (Nat.le_max_left n m)) (h'.up (Nat.le_max_right n m))
end Go.Proofs.Ytiilamngcoegiaa.fnExactCompareOccurrences
