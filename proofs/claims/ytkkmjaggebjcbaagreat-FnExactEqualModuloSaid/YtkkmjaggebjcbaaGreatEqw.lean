/-
 THE WALK OF FnExactEqualModulo.
-/
import Derived.Test.YtkkmjaggebjcbaaGreatPk14
import Derived.Test.YtkkmjaggebjcbaaGreatEqs
import Derived.Test.YtkkmjaggebjcbaaGreatPk15
import Derived.Test.YtkkmjaggebjcbaaGreatPk11
import Derived.Test.YtkkmjaggebjcbaaGreatPk04
import Derived.Test.YtkkmjaggebjcbaaGreatPk06
namespace Go.Proofs.YtkkmjaggebjcbaaGreat.fnExactEqualModulo
open Go.ChangeShapes Go.WideShapes Go.ChangeAt Go.RowKit
open mem dec setm sets sortm sortn sortp sorti sorts subs split strl join sortf sortu sortg sigm sigs sigt sigu sige rowl trm trmv terml termb termt termu termx gram gramn gramt grami formt tmc rebp eqm eqs

abbrev C4 (z : Nat) (t0 t1 t2 t3 : Value) (w : World) : Prop := w.cell? ⟨z, 0, none⟩ = some t0 ∧ w.cell? ⟨z, 1, none⟩ = some t1 ∧ w.cell? ⟨z, 2, none⟩ = some t2 ∧ w.cell? ⟨z, 3, none⟩ = some t3
theorem C4.below {z : Nat} {t0 t1 t2 t3 : Value} {w w' : World} (h : C4 z t0 t1 t2 t3 w) (hb : Below w.heap.size w w') : C4 z t0 t1 t2 t3 w' := by
 obtain ⟨a, b, c, d⟩ := h
 exact ⟨(hb.cell (p := ⟨z, 0, none⟩) (block_lt_of_cell a)).trans a, (hb.cell (p := ⟨z, 1, none⟩) (block_lt_of_cell b)).trans b, (hb.cell (p := ⟨z, 2, none⟩) (block_lt_of_cell c)).trans c, (hb.cell (p := ⟨z, 3, none⟩) (block_lt_of_cell d)).trans d⟩
abbrev B5 (x y z : Nat) (v0 v1 v2 u0 u1 u2 u3 t0 t1 t2 t3 : Value) (w : World) : Prop := Box34 x y v0 v1 v2 u0 u1 u2 u3 w ∧ C4 z t0 t1 t2 t3 w
theorem B5.below {x y z : Nat} {v0 v1 v2 u0 u1 u2 u3 t0 t1 t2 t3 : Value} {w w' : World} (h : B5 x y z v0 v1 v2 u0 u1 u2 u3 t0 t1 t2 t3 w) (hb : Below w.heap.size w w') : B5 x y z v0 v1 v2 u0 u1 u2 u3 t0 t1 t2 t3 w' := ⟨h.1.below hb, C4.below h.2 hb⟩
set_option maxHeartbeats 8000000 in
set_option maxRecDepth 100000 in
theorem go {n : Nat} (P : List (List UInt8)) (Q : List (Int × Int)) (O : List OpM) (va vb vc : Value) (t s : TermM) (vt vs : Value) (w : World) (h : HasG w va vb vc P Q O) (ht : HasTs n 0 w vt t.args) (hs : HasTs n 0 w vs s.args) (hBt : Bnd t) (hBs : Bnd s) :
  Calls Tryz.prog 4 #[.agg #[va, vb, vc], aggT t vt, aggT s vs] w fun e w' => e = .returned (.bool true) ∧ Below w.heap.size w w' := by
 have HSZ := Lib.hid (fun W (hW : Below w.heap.size w W) => szSignature_any P Q O va vb vc W (h.below (Nat.le_refl _) hW))
 have HS1 := Lib.hid (fun W (hW : Below w.heap.size w W) r (h0 : 0 ≤ r) (h1 : r ≤ 1048576) => szTerm_any t.op t.name t.sort t.args vt W hBt.1 (ht.below (Nat.le_refl _) hW) r h0 h1)
 have HS2 := Lib.hid (fun W (hW : Below w.heap.size w W) r (h0 : 0 ≤ r) (h1 : r ≤ 1048576) => szTerm_any s.op s.name s.sort s.args vs W hBs.1 (hs.below (Nat.le_refl _) hW) r h0 h1)
 have HTO := Lib.hid (fun W (hW : Below w.heap.size w W) (hs : (Small P ∧ Q.length ≤ 1048576) ∧ SmO O) => toSignature_any P Q O hs va vb vc W (h.below (Nat.le_refl _) hW))
 have HT1 := Lib.hid (fun W (hW : Below w.heap.size w W) (hs : sizes t.args ≤ 1048576) => toTerm_any t.op t.name t.sort t.args hs vt W (ht.below (Nat.le_refl _) hW))
 have HT2 := Lib.hid (fun W (hW : Below w.heap.size w W) (hs' : sizes s.args ≤ 1048576) => toTerm_any s.op s.name s.sort s.args hs' vs W (hs.below (Nat.le_refl _) hW))
 obtain ⟨z, hz⟩ : ∃ z : Bool, z = true ↔ ∃ u, canG P Q O t = some u ∧ canG P Q O s = some u := by
  by_cases hq : ∃ u, canG P Q O t = some u ∧ canG P Q O s = some u
  ·exact ⟨true, fun _ => hq, fun _ => rfl⟩
  ·exact ⟨false, fun e => absurd e (by simp), fun e => absurd e hq⟩
 have HSP : Hid (∀ v1 v2 v3 v4 v5 W, HasG W v1 v2 v3 P Q O → HasTs (n + 1) 0 W v4 t.args → HasTs (n + 1) 0 W v5 s.args → sizes t.args ≤ 1048576 → sizes s.args ≤ 1048576 → Calls Tryz.prog 20 #[.agg #[v1, v2, v3], aggT t v4, aggT s v5] W fun e w' => e = .returned (.bool z) ∧ Below W.heap.size W w') := Lib.hid (fun v1 v2 v3 v4 v5 W hG h1 h2 h3 h4 => sEqm_any P Q O v1 v2 v3 t s v4 v5 W hG h1 h2 hBt hBs h3 h4 z hz)
 have HIM : Hid (∀ v1 v2 v3 v4 v5 W, HasG W v1 v2 v3 P Q O → HasTs (n + 1) 0 W v4 t.args → HasTs (n + 1) 0 W v5 s.args → sizes t.args ≤ 1048576 → sizes s.args ≤ 1048576 → (∀ m, PlA m W v4 t.args) → (∀ m, PlA m W v5 s.args) → Calls Tryz.prog 22 #[.agg #[v1, v2, v3], aggT t v4, aggT s v5] W fun e w' => e = .returned (.bool z) ∧ Below W.heap.size W w') := Lib.hid (fun v1 v2 v3 v4 v5 W hG h1 h2 h3 h4 h5 h6 => iEqm_any P Q O v1 v2 v3 t s v4 v5 W hG h1 h2 hBt hBs h3 h4 h5 h6 z hz)
 have HEA := Lib.hid (fun v1 v2 v3 u1 u2 u3 W (h1 : HasG W v1 v2 v3 P Q O) (h2 : HasG W u1 u2 u3 P Q O) => eqSignature_same P Q O v1 v2 v3 u1 u2 u3 W h1 h2)
 have HE1 := Lib.hid (fun v1 v2 W lo lo' (hW : HasTs (n + 1) lo W v1 t.args) (hW' : HasTs (n + 1) lo' W v2 t.args) => eqTerm_any t.op t.name t.sort t.args v1 v2 W hW hW')
 have HE2 := Lib.hid (fun v1 v2 W lo lo' (hW : HasTs (n + 1) lo W v1 s.args) (hW' : HasTs (n + 1) lo' W v2 s.args) => eqTerm_any s.op s.name s.sort s.args v1 v2 W hW hW')
 obtain ⟨B1, d1, rfl, _⟩ := HasR.shape ht rfl
 obtain ⟨B2, d2, rfl, _⟩ := HasR.shape hs rfl
 obtain ⟨A1, c1, A2, c2, A3, c3, rfl, rfl, rfl, _⟩ := h.shape
 have HSH : Hid (∀ {W v1 v2 v3}, HasG W v1 v2 v3 P Q O → ∃ A1 c1 A2 c2 A3 c3, v1 = .slice A1 P.length c1 ∧ v2 = .slice A2 Q.length c2 ∧ v3 = .slice A3 O.length c3) := Lib.hid (fun h => by
  obtain ⟨A1, c1, A2, c2, A3, c3, e1, e2, e3, _⟩ := h.shape
  exact ⟨A1, c1, A2, c2, A3, c3, e1, e2, e3⟩)
 have HO1 : Hid (∀ {W lo v S}, OT 34 (n + 1) lo W v t.args S → ∃ A c, v = .slice A t.args.length c) := Lib.hid (fun h => OT.shape h)
 have HO2 : Hid (∀ {W lo v S}, OT 34 (n + 1) lo W v s.args S → ∃ A c, v = .slice A s.args.length c) := Lib.hid (fun h => OT.shape h)
 have HMO : Hid (∀ {W lo v S} {L : List TermM}, OT 34 (n + 1) lo W v L S → HasTs (n + 1) 0 W v L ∧ ∀ m, PlA m W v L) := Lib.hid (fun h => ⟨h.has.mono (RT_steady _) (Nat.zero_le _), fun m => ot_plain _ m h⟩)
 unfold aggT at HSP HIM ⊢
 obtain ⟨l1, hl1⟩ : ∃ q, q = t.args.length := ⟨_, rfl⟩
 obtain ⟨o1, ho1⟩ : ∃ q, q = t.op := ⟨_, rfl⟩
 obtain ⟨n1, hn1⟩ : ∃ q, q = t.name := ⟨_, rfl⟩
 obtain ⟨s1, hs1⟩ : ∃ q, q = t.sort := ⟨_, rfl⟩
 obtain ⟨l2, hl2⟩ : ∃ q, q = s.args.length := ⟨_, rfl⟩
 obtain ⟨o2, ho2⟩ : ∃ q, q = s.op := ⟨_, rfl⟩
 obtain ⟨n2, hn2⟩ : ∃ q, q = s.name := ⟨_, rfl⟩
 obtain ⟨s2, hs2⟩ : ∃ q, q = s.sort := ⟨_, rfl⟩
 obtain ⟨m1, hm1⟩ : ∃ q, q = P.length := ⟨_, rfl⟩
 obtain ⟨m2, hm2⟩ : ∃ q, q = Q.length := ⟨_, rfl⟩
 obtain ⟨m3, hm3⟩ : ∃ q, q = O.length := ⟨_, rfl⟩
 rw [← hl1] at HS1 HT1 HO1 ⊢
 rw [← hl2] at HS2 HT2 HO2 ⊢
 rw [← ho1, ← hn1, ← hs1] at HS1 HT1 HSP HIM HE1 ⊢
 rw [← ho2, ← hn2, ← hs2] at HS2 HT2 HSP HIM HE2 ⊢
 obtain ⟨SmP, hSmP⟩ : ∃ p : Prop, p = ((Small P ∧ Q.length ≤ 1048576) ∧ SmO O) := ⟨_, rfl⟩
 rw [← hSmP] at HTO
 have HSZ' : Hid (∀ W, Below w.heap.size w W → Calls Tryz.prog 6 #[.agg #[.slice A1 m1 c1, .slice A2 m2 c2, .slice A3 m3 c3], .int .i64 1048576] W fun e w' => ∃ r : Int, e = .returned (.int .i64 r) ∧ (0 ≤ r → SmP) ∧ r ≤ 1048576 ∧ Below W.heap.size W w') := Lib.hid (fun W hW => by
  rw [hm1, hm2, hm3]
  refine (HSZ.out W hW).mono ?_
  rintro e w' ⟨r, rfl, hr, hr1, hr2, hb⟩
  exact ⟨r, rfl, fun h => by rw [hSmP]; exact hr h, hr2, hb⟩)
 rw [← hm1, ← hm2, ← hm3] at HTO HSH ⊢
 clear h ht hs hBt hBs hz hl1 ho1 hn1 hs1 hl2 ho2 hn2 hs2 hm1 hm2 hm3 HSZ hSmP
 obtain ⟨W0, hW0⟩ : ∃ W0, W0 = (w.alloc (.cells #[.slice A1 m1 c1, .slice A2 m2 c2, .slice A3 m3 c3] 28)).alloc (.cells #[.int .i64 o1, .string (bstr n1), .int .i64 s1, .slice B1 l1 d1] 53) := ⟨_, rfl⟩
 obtain ⟨W, hW⟩ : ∃ W, W = W0.alloc (.cells #[.int .i64 o2, .string (bstr n2), .int .i64 s2, .slice B2 l2 d2] 53) := ⟨_, rfl⟩
 have hz1 : W0.heap.size = w.heap.size + 2 := by rw [hW0]; simp
 have hb1 : Below W0.heap.size W0 W := by rw [hW]; exact (Below.refl _ _).alloc (Nat.le_refl _) _
 have hb0 : Below w.heap.size w W := by
  rw [hW, hW0]
  repeat (first | exact Below.refl _ _ | refine Below.alloc ?_ (by first | (simp; done) | (simp; omega)) _)
 have hX0 : B5 w.heap.size (w.heap.size + 1) (w.heap.size + 2) (.slice A1 m1 c1) (.slice A2 m2 c2) (.slice A3 m3 c3) (.int .i64 o1) (.string (bstr n1)) (.int .i64 s1) (.slice B1 l1 d1) (.int .i64 o2) (.string (bstr n2)) (.int .i64 s2) (.slice B2 l2 d2) W :=
  ⟨⟨box3 ((hb1.block _ (by omega)).trans (by rw [hW0]; exact heap2a _ _ _)), box4 ((hb1.block _ (by omega)).trans (by rw [hW0]; exact termt.heap_at _ _ _ (by simp)))⟩, box4 (by rw [hW]; exact termt.heap_at _ _ _ (by omega))⟩
 have HX := Lib.hid hX0
 have HB0 := Lib.hid hb0
 clear hb0 hb1 hX0 hz1
 obtain ⟨⟨⟨x0, x1, x2⟩, _⟩, _⟩ := HX.out
 go_enter Tryz.func4, Tryz.ntmps4
 go_upto_region 2 with fail
 rw [hW0] at hW
 rw [← hW]
 clear hW hW0
 go_wp2_with fail
 refine (HSZ'.out _ HB0.out).mono ?_
 rintro e w1 ⟨r, rfl, hr, hr2, hb1⟩
 have HB1 := Lib.hid (HB0.out.trans (hb1.mono HB0.out.size))
 have HX1 := Lib.hid (B5.below HX.out hb1)
 have HR := Lib.hid hr
 clear hb1 HX HB0 hr x0 x1 x2
 by_cases hneg : r < 0
 ·go_wp2
  go_ret
  exact ⟨rfl, HB1.out⟩
 obtain ⟨⟨_, y0, y1, y2, y3⟩, _⟩ := HX1.out
 go_wp2_with fail
 refine (HS1.out _ HB1.out r (by omega) hr2).mono ?_
 rintro e w2 ⟨r', rfl, hr', hr1', hr2', hb2⟩
 have HB2 := Lib.hid (HB1.out.trans (hb2.mono HB1.out.size))
 have HX2 := Lib.hid (B5.below HX1.out hb2)
 have HR' := Lib.hid hr'
 clear hb2 y0 y1 y2 y3 HX1 HB1 hr'
 by_cases hneg' : r' < 0
 ·go_wp2
  go_ret
  exact ⟨rfl, HB2.out⟩
 obtain ⟨_, y0, y1, y2, y3⟩ := HX2.out
 go_wp2_with fail
 refine (HS2.out _ HB2.out r' (by omega) hr2').mono ?_
 rintro e w3 ⟨r3, rfl, hr3, hr13, hr23, hb3⟩
 have HB3 := Lib.hid (HB2.out.trans (hb3.mono HB2.out.size))
 have HX3 := Lib.hid (B5.below HX2.out hb3)
 have HR3 := Lib.hid hr3
 clear hb3 y0 y1 y2 y3 HX2 HB2 hr3
 by_cases hneg3 : r3 < 0
 ·go_wp2
  go_ret
  exact ⟨rfl, HB3.out⟩
 have HSM : Hid (SmP ∧ sizes t.args ≤ 1048576 ∧ sizes s.args ≤ 1048576) := Lib.hid ⟨HR.out (by omega), by have := HR'.out (by omega); omega, by have := HR3.out (by omega); omega⟩
 clear HR HR' HR3 hr1' hr2' hr2 hr13 hr23
 go_wp2_with fail
 refine wp_region_noPanic ?_
 refine wp_region_held_drew (S := (B5 w.heap.size (w.heap.size + 1) (w.heap.size + 2) (.slice A1 m1 c1) (.slice A2 m2 c2) (.slice A3 m3 c3) (.int .i64 o1) (.string (bstr n1)) (.int .i64 s1) (.slice B1 l1 d1) (.int .i64 o2) (.string (bstr n2)) (.int .i64 s2) (.slice B2 l2 d2))) (by kernel_rfl) ?_ (fun hHd0 => ?_)
 ·exact HX3.out
 refine wpAnyH_take (i := 0) (v := ?_) rfl (by kernel_rfl) (by kernel_rfl) (by kernel_rfl) (fun _ _ _ h => h) (Or.inl ⟨by rfl, ?_⟩) (by with_reducible assumption) ?_
 rotate_left
 ·intro w hSw; (try dsimp only at hSw); go_simp <;> with_reducible rfl
 (try simp only [Act.put]); (try simp only [List.setIfInBounds_toArray]); (try simp only [List.set_cons_succ, List.set_cons_zero])
 refine wpAnyH_take (i := 2) (v := ?_) rfl (by kernel_rfl) (by kernel_rfl) (by kernel_rfl) (fun _ _ _ h => h) (Or.inl ⟨by rfl, ?_⟩) (by with_reducible assumption) ?_
 rotate_left
 ·intro w hSw; (try dsimp only at hSw); go_simp <;> with_reducible rfl
 (try simp only [Act.put]); (try simp only [List.setIfInBounds_toArray]); (try simp only [List.set_cons_succ, List.set_cons_zero])
 refine wpAnyH_take (i := 4) (v := ?_) rfl (by kernel_rfl) (by kernel_rfl) (by kernel_rfl) (fun _ _ _ h => h) (Or.inl ⟨by rfl, ?_⟩) (by with_reducible assumption) ?_
 rotate_left
 ·intro w hSw; (try dsimp only at hSw); go_simp <;> with_reducible rfl
 (try simp only [Act.put]); (try simp only [List.setIfInBounds_toArray]); (try simp only [List.set_cons_succ, List.set_cons_zero])
 refine wpAnyH_ready (rs := [1]) (by kernel_rfl) (by simp) ?_
 refine AllReadyH.cons (o := _) rfl (fun K hK => ?_) ?_
 ·(go_simp; refine (HTO.out w3.drew HB3.out.drew HSM.out.1).mono ?_; rintro e w4 ⟨v1, v2, v3, rfl, hG, hb4⟩; obtain ⟨D1, e1, D2, e2, D3, e3, rfl, rfl, rfl⟩ := HSH.out hG; have HX4 := Lib.hid (B5.below (w := w3.drew) (show B5 w.heap.size (w.heap.size + 1) (w.heap.size + 2) (.slice A1 m1 c1) (.slice A2 m2 c2) (.slice A3 m3 c3) (.int .i64 o1) (.string (bstr n1)) (.int .i64 s1) (.slice B1 l1 d1) (.int .i64 o2) (.string (bstr n2)) (.int .i64 s2) (.slice B2 l2 d2) w3.drew from HX3.out) hb4); have HB4 := Lib.hid ((HB3.out.drew).trans (hb4.mono (HB3.out.drew).size)); have HG4 := Lib.hid hG; clear hG hb4; (try dsimp only))
  refine hK.out _ _ ?_ (fun hHd1 => ?_)
  ·(try dsimp only); first | (with_reducible exact HX4.out) | (with_reducible exact HX5.out) | (with_reducible exact HX6.out) | (with_reducible exact HX7.out)
  clear hK K hHd0
  (try simp only [Act.put]); (try simp only [List.setIfInBounds_toArray]); (try simp only [List.set_cons_succ, List.set_cons_zero])
  refine wpAnyH_ready (rs := [3]) (by kernel_rfl) (by simp) ?_
  refine AllReadyH.cons (o := _) rfl (fun K hK => ?_) ?_
  ·(go_simp; refine (HT1.out w4 HB4.out HSM.out.2.1).mono ?_; rintro e w5 ⟨v4, S4, rfl, ho, hb5⟩; obtain ⟨E1, k1, rfl⟩ := HO1.out ho; have HX5 := Lib.hid (B5.below (w := w4) HX4.out hb5); have HB5 := Lib.hid ((HB4.out).trans (hb5.mono (HB4.out).size)); have HG5 := Lib.hid (HG4.out.below (Nat.le_refl _) hb5); have HP5 := Lib.hid (HMO.out ho).1; clear ho hb5; (try dsimp only))
   refine hK.out _ _ ?_ (fun hHd2 => ?_)
   ·(try dsimp only); first | (with_reducible exact HX4.out) | (with_reducible exact HX5.out) | (with_reducible exact HX6.out) | (with_reducible exact HX7.out)
   clear hK K hHd1
   (try simp only [Act.put]); (try simp only [List.setIfInBounds_toArray]); (try simp only [List.set_cons_succ, List.set_cons_zero])
   refine wpAnyH_ready (rs := [5]) (by kernel_rfl) (by simp) ?_
   refine AllReadyH.cons (o := _) rfl (fun K hK => ?_) ?_
   ·(go_simp; refine (HT2.out w5 HB5.out HSM.out.2.2).mono ?_; rintro e w6 ⟨v5, S5, rfl, ho, hb6⟩; obtain ⟨E2, k2, rfl⟩ := HO2.out ho; have HX6 := Lib.hid (B5.below (w := w5) HX5.out hb6); have HB6 := Lib.hid ((HB5.out).trans (hb6.mono (HB5.out).size)); have HG6 := Lib.hid (HG5.out.below (Nat.le_refl _) hb6); have HP6 := Lib.hid (HP5.out.below (Nat.le_refl _) hb6); have HQ6 := Lib.hid (HMO.out ho).1; clear ho hb6; (try dsimp only))
    refine hK.out _ _ ?_ (fun hHd3 => ?_)
    ·(try dsimp only); first | (with_reducible exact HX4.out) | (with_reducible exact HX5.out) | (with_reducible exact HX6.out) | (with_reducible exact HX7.out)
    clear hK K hHd2
    (try simp only [Act.put]); (try simp only [List.setIfInBounds_toArray]); (try simp only [List.set_cons_succ, List.set_cons_zero])
    refine wpAnyH_ready (rs := [6]) (by kernel_rfl) (by simp) ?_
    refine AllReadyH.cons (o := _) rfl (fun K hK => ?_) ?_
    ·(go_simp; refine (HSP.out _ _ _ _ _ w6 HG6.out HP6.out HQ6.out HSM.out.2.1 HSM.out.2.2).mono ?_; rintro e w7 ⟨rfl, hb7⟩; have HX7 := Lib.hid (B5.below (w := w6) HX6.out hb7); have HB7 := Lib.hid ((HB6.out).trans (hb7.mono (HB6.out).size)); clear hb7; (try dsimp only))
     refine hK.out _ _ ?_ (fun hHd4 => ?_)
     ·(try dsimp only); first | (with_reducible exact HX4.out) | (with_reducible exact HX5.out) | (with_reducible exact HX6.out) | (with_reducible exact HX7.out)
     clear hK K hHd3
     (try simp only [Act.put]); (try simp only [List.setIfInBounds_toArray]); (try simp only [List.set_cons_succ, List.set_cons_zero])
     refine wpAnyH_ready (rs := [7]) (by kernel_rfl) (by simp) ?_
     refine AllReadyH.cons (o := _) rfl (fun K hK => ?_) ?_
     ·go_simp
      refine hK.out _ _ ?_ (fun hHd5 => ?_)
      ·(try dsimp only); first | (with_reducible exact HX4.out) | (with_reducible exact HX5.out) | (with_reducible exact HX6.out) | (with_reducible exact HX7.out)
      clear hK K hHd4
      (try simp only [Act.put]); (try simp only [List.setIfInBounds_toArray]); (try simp only [List.set_cons_succ, List.set_cons_zero])
      refine wpAnyH_done (by kernel_rfl) ?_ _
      refine NoPanic.normal ?_
      clear HG4 HG5 HG6 HP5 HP6 HQ6 HX4 HX5 HX6 HB4 HB5 HB6 HX3 HB3
      obtain ⟨⟨⟨x0, x1, x2⟩, y0, y1, y2, y3⟩, t0, t1, t2, t3⟩ := HX7.out
      go_wp2_with fail
      refine (HTO.out w7 HB7.out HSM.out.1).mono ?_
      rintro e wa ⟨v5, v6, v7, rfl, hG, hba⟩
      obtain ⟨F1, f1, F2, f2, F3, f3, rfl, rfl, rfl⟩ := HSH.out hG
      obtain ⟨Wa, hWa⟩ : ∃ Wa, Wa = wa.alloc (.cells #[.slice F1 m1 f1, .slice F2 m2 f2, .slice F3 m3 f3] 42) := ⟨_, rfl⟩
      have hbA : Below wa.heap.size wa Wa := by rw [hWa]; exact (Below.refl _ _).alloc (Nat.le_refl _) _
      have hYa : Wa.heap[wa.heap.size]? = some (.cells #[.slice F1 m1 f1, .slice F2 m2 f2, .slice F3 m3 f3] 42 (0, 0)) := by rw [hWa]; exact termt.heap_at _ _ _ rfl
      have hza : Wa.heap.size = wa.heap.size + 1 := by rw [hWa]; simp
      have HBa := Lib.hid ((HB7.out.trans (hba.mono HB7.out.size)).trans (hbA.mono (HB7.out.trans (hba.mono HB7.out.size)).size))
      have HXa := Lib.hid (B5.below (B5.below HX7.out hba) hbA)
      have HGa := Lib.hid (hG.below (Nat.le_refl _) hbA)
      have HYa := Lib.hid hYa
      clear hG hba hbA hYa x0 x1 x2 y0 y1 y2 y3 t0 t1 t2 t3
      obtain ⟨⟨_, y0, y1, y2, y3⟩, _⟩ := HXa.out
      go_upto_region 13 with fail
      rw [← hWa]
      clear hWa
      go_wp2_with fail
      refine (HT1.out Wa HBa.out HSM.out.2.1).mono ?_
      rintro e wb ⟨v8, S8, rfl, ho8, hbb⟩
      obtain ⟨G1, g1, rfl⟩ := HO1.out ho8
      obtain ⟨Wb, hWb⟩ : ∃ Wb, Wb = wb.alloc (.cells #[.int .i64 o1, .string (bstr n1), .int .i64 s1, .slice G1 l1 g1] 34) := ⟨_, rfl⟩
      have hbB : Below wb.heap.size wb Wb := by rw [hWb]; exact (Below.refl _ _).alloc (Nat.le_refl _) _
      have hYb : Wb.heap[wb.heap.size]? = some (.cells #[.int .i64 o1, .string (bstr n1), .int .i64 s1, .slice G1 l1 g1] 34 (0, 0)) := by rw [hWb]; exact termt.heap_at _ _ _ rfl
      have hzb : Wb.heap.size = wb.heap.size + 1 := by rw [hWb]; simp
      have hbab : Below Wa.heap.size Wa Wb := hbb.trans (hbB.mono hbb.size)
      have HBb := Lib.hid (HBa.out.trans (hbab.mono HBa.out.size))
      have HXb := Lib.hid (B5.below HXa.out hbab)
      have HGb := Lib.hid (HGa.out.below (Nat.le_refl _) hbab)
      have HYb := Lib.hid (And.intro ((hbab.block _ (by omega)).trans HYa.out) hYb)
      have HPb := Lib.hid (ho8.below hbB)
      have hzab : wa.heap.size + 1 ≤ wb.heap.size := by have := hbb.size; omega
      clear ho8 hbb hbB hYb hbab y0 y1 y2 y3
      obtain ⟨_, t0, t1, t2, t3⟩ := HXb.out
      go_upto_region 14 with fail
      rw [← hWb]
      clear hWb
      go_wp2_with fail
      refine (HT2.out Wb HBb.out HSM.out.2.2).mono ?_
      rintro e wc ⟨v9, S9, rfl, ho9, hbc⟩
      obtain ⟨G2, g2, rfl⟩ := HO2.out ho9
      obtain ⟨Wc, hWc⟩ : ∃ Wc, Wc = wc.alloc (.cells #[.int .i64 o2, .string (bstr n2), .int .i64 s2, .slice G2 l2 g2] 34) := ⟨_, rfl⟩
      have hbC : Below wc.heap.size wc Wc := by rw [hWc]; exact (Below.refl _ _).alloc (Nat.le_refl _) _
      have hYc : Wc.heap[wc.heap.size]? = some (.cells #[.int .i64 o2, .string (bstr n2), .int .i64 s2, .slice G2 l2 g2] 34 (0, 0)) := by rw [hWc]; exact termt.heap_at _ _ _ rfl
      have hbbc : Below Wb.heap.size Wb Wc := hbc.trans (hbC.mono hbc.size)
      have HBc := Lib.hid (HBb.out.trans (hbbc.mono HBb.out.size))
      have HXc := Lib.hid (B5.below HXb.out hbbc)
      have HGc := Lib.hid (HGb.out.below (Nat.le_refl _) hbbc)
      have HPc := Lib.hid (HPb.out.below hbbc)
      have HQc := Lib.hid (ho9.below hbC)
      have HYc : Hid (B5 wa.heap.size wb.heap.size wc.heap.size (.slice F1 m1 f1) (.slice F2 m2 f2) (.slice F3 m3 f3) (.int .i64 o1) (.string (bstr n1)) (.int .i64 s1) (.slice G1 l1 g1) (.int .i64 o2) (.string (bstr n2)) (.int .i64 s2) (.slice G2 l2 g2) Wc) := Lib.hid ⟨⟨box3 ((hbbc.block _ (by omega)).trans HYb.out.1), box4 ((hbbc.block _ (by omega)).trans HYb.out.2)⟩, box4 hYc⟩
      clear ho9 hbc hbC hYc hbbc t0 t1 t2 t3
      obtain ⟨⟨⟨x0, x1, x2⟩, y0, y1, y2, y3⟩, t0, t1, t2, t3⟩ := HYc.out
      go_upto_region 15 with fail
      rw [← hWc]
      clear hWc
      go_wp2_with fail
      refine (HIM.out _ _ _ _ _ Wc HGc.out (HMO.out HPc.out).1 (HMO.out HQc.out).1 HSM.out.2.1 HSM.out.2.2 (HMO.out HPc.out).2 (HMO.out HQc.out).2).mono ?_
      rintro e wd ⟨rfl, hbd⟩
      have HBd := Lib.hid (HBc.out.trans (hbd.mono HBc.out.size))
      have HXd := Lib.hid (B5.below HXc.out hbd)
      have HYd := Lib.hid (B5.below HYc.out hbd)
      have HGd := Lib.hid (HGc.out.below (Nat.le_refl _) hbd)
      have HPd := Lib.hid ((HMO.out HPc.out).1.below (Nat.le_refl _) hbd)
      have HQd := Lib.hid ((HMO.out HQc.out).1.below (Nat.le_refl _) hbd)
      clear hbd x0 x1 x2 y0 y1 y2 y3 t0 t1 t2 t3 HBa HXa HGa HYa HBb HXb HGb HYb HPb HBc HXc HGc HPc HQc HYc HX7 HB7
      go_wp2_with fail
      refine wp_region_noPanic ?_
      refine wp_region_held_drew (S := (fun w' => B5 wa.heap.size wb.heap.size wc.heap.size (.slice F1 m1 f1) (.slice F2 m2 f2) (.slice F3 m3 f3) (.int .i64 o1) (.string (bstr n1)) (.int .i64 s1) (.slice G1 l1 g1) (.int .i64 o2) (.string (bstr n2)) (.int .i64 s2) (.slice G2 l2 g2) w' ∧ B5 w.heap.size (w.heap.size + 1) (w.heap.size + 2) (.slice A1 m1 c1) (.slice A2 m2 c2) (.slice A3 m3 c3) (.int .i64 o1) (.string (bstr n1)) (.int .i64 s1) (.slice B1 l1 d1) (.int .i64 o2) (.string (bstr n2)) (.int .i64 s2) (.slice B2 l2 d2) w')) (by kernel_rfl) ?_ (fun hHd0 => ?_)
      ·exact ⟨HYd.out, HXd.out⟩
      refine wpAnyH_take (i := 0) (v := ?_) rfl (by kernel_rfl) (by kernel_rfl) (by kernel_rfl) (fun _ _ _ h => h) (Or.inl ⟨by rfl, ?_⟩) (by with_reducible assumption) ?_
      rotate_left
      ·intro w hSw; (try dsimp only at hSw); go_simp <;> with_reducible rfl
      (try simp only [Act.put]); (try simp only [List.setIfInBounds_toArray]); (try simp only [List.set_cons_succ, List.set_cons_zero])
      refine wpAnyH_take (i := 1) (v := ?_) rfl (by kernel_rfl) (by kernel_rfl) (by kernel_rfl) (fun _ _ _ h => h) (Or.inl ⟨by rfl, ?_⟩) (by with_reducible assumption) ?_
      rotate_left
      ·intro w hSw; (try dsimp only at hSw); go_simp <;> with_reducible rfl
      (try simp only [Act.put]); (try simp only [List.setIfInBounds_toArray]); (try simp only [List.set_cons_succ, List.set_cons_zero])
      refine wpAnyH_ready (rs := [2]) (by kernel_rfl) (by simp) ?_
      refine AllReadyH.cons (o := _) rfl (fun K hK => ?_) ?_
      ·(go_simp; refine (HTO.out wd.drew HBd.out.drew HSM.out.1).mono ?_; rintro e we ⟨u1, u2, u3, rfl, hGe, hbe⟩; obtain ⟨J1, j1, J2, j2, J3, j3, rfl, rfl, rfl⟩ := HSH.out hGe; have HXe := Lib.hid (B5.below (w := wd.drew) HXd.out hbe); have HYe := Lib.hid (B5.below (w := wd.drew) HYd.out hbe); have HSe := Lib.hid (And.intro HYe.out HXe.out); have HBe := Lib.hid (HBd.out.drew.trans (hbe.mono HBd.out.size)); (try dsimp only))
       refine hK.out _ _ ?_ (fun hHd1 => ?_)
       ·(try dsimp only); first | (with_reducible exact HSe.out) | (with_reducible exact HSf.out)
       clear hK K hHd0
       (try simp only [Act.put]); (try simp only [List.setIfInBounds_toArray]); (try simp only [List.set_cons_succ, List.set_cons_zero])
       refine wpAnyH_ready (rs := [3]) (by kernel_rfl) (by simp) ?_
       refine AllReadyH.cons (o := _) rfl (fun K hK => ?_) ?_
       ·(go_simp; refine (HEA.out _ _ _ _ _ _ we ((HGd.out.below (Nat.le_refl _) (Below.refl _ _).drew).below (Nat.le_refl _) hbe) hGe).mono ?_; rintro e wf ⟨rfl, hbf⟩; have HXf := Lib.hid (B5.below HXe.out hbf); have HYf := Lib.hid (B5.below HYe.out hbf); have HSf := Lib.hid (And.intro HYf.out HXf.out); have HBf := Lib.hid (HBe.out.trans (hbf.mono HBe.out.size)); have hbbf := (Below.refl wd.heap.size wd).drew.trans (hbe.trans (hbf.mono hbe.size)); (try dsimp only))
        refine hK.out _ _ ?_ (fun hHd2 => ?_)
        ·(try dsimp only); first | (with_reducible exact HSe.out) | (with_reducible exact HSf.out)
        clear hK K hHd1
        (try simp only [Act.put]); (try simp only [List.setIfInBounds_toArray]); (try simp only [List.set_cons_succ, List.set_cons_zero])
        refine wpAnyH_ready (rs := [4]) (by kernel_rfl) (by simp) ?_
        refine AllReadyH.cons (o := _) rfl (fun K hK => ?_) ?_
        ·go_simp
         refine hK.out _ _ ?_ (fun hHd3 => ?_)
         ·(try dsimp only); first | (with_reducible exact HSe.out) | (with_reducible exact HSf.out)
         clear hK K hHd2
         (try simp only [Act.put]); (try simp only [List.setIfInBounds_toArray]); (try simp only [List.set_cons_succ, List.set_cons_zero])
         refine wpAnyH_done (by kernel_rfl) ?_ _
         refine NoPanic.normal ?_
         have HPf := Lib.hid (HPd.out.below (Nat.le_refl _) hbbf)
         have HQf := Lib.hid (HQd.out.below (Nat.le_refl _) hbbf)
         clear hbbf hbe hbf hGe
         go_wp2_with fail
         refine wp_region_noPanic ?_
         refine wp_region_held_drew (S := (fun w' => B5 wa.heap.size wb.heap.size wc.heap.size (.slice F1 m1 f1) (.slice F2 m2 f2) (.slice F3 m3 f3) (.int .i64 o1) (.string (bstr n1)) (.int .i64 s1) (.slice G1 l1 g1) (.int .i64 o2) (.string (bstr n2)) (.int .i64 s2) (.slice G2 l2 g2) w' ∧ B5 w.heap.size (w.heap.size + 1) (w.heap.size + 2) (.slice A1 m1 c1) (.slice A2 m2 c2) (.slice A3 m3 c3) (.int .i64 o1) (.string (bstr n1)) (.int .i64 s1) (.slice B1 l1 d1) (.int .i64 o2) (.string (bstr n2)) (.int .i64 s2) (.slice B2 l2 d2) w')) (by kernel_rfl) ?_ (fun hHd0 => ?_)
         ·exact ⟨HYf.out, HXf.out⟩
         refine wpAnyH_take (i := 0) (v := ?_) rfl (by kernel_rfl) (by kernel_rfl) (by kernel_rfl) (fun _ _ _ h => h) (Or.inl ⟨by rfl, ?_⟩) (by with_reducible assumption) ?_
         rotate_left
         ·intro w hSw; (try dsimp only at hSw); go_simp <;> with_reducible rfl
         (try simp only [Act.put]); (try simp only [List.setIfInBounds_toArray]); (try simp only [List.set_cons_succ, List.set_cons_zero])
         refine wpAnyH_take (i := 1) (v := ?_) rfl (by kernel_rfl) (by kernel_rfl) (by kernel_rfl) (fun _ _ _ h => h) (Or.inl ⟨by rfl, ?_⟩) (by with_reducible assumption) ?_
         rotate_left
         ·intro w hSw; (try dsimp only at hSw); go_simp <;> with_reducible rfl
         (try simp only [Act.put]); (try simp only [List.setIfInBounds_toArray]); (try simp only [List.set_cons_succ, List.set_cons_zero])
         refine wpAnyH_ready (rs := [2]) (by kernel_rfl) (by simp) ?_
         refine AllReadyH.cons (o := _) rfl (fun K hK => ?_) ?_
         ·(go_simp; refine (HT1.out wf.drew HBf.out.drew HSM.out.2.1).mono ?_; rintro e wg ⟨vg, Sg, rfl, hog, hbg⟩; obtain ⟨K1, q1, rfl⟩ := HO1.out hog; have HXg := Lib.hid (B5.below (w := wf.drew) HXf.out hbg); have HYg := Lib.hid (B5.below (w := wf.drew) HYf.out hbg); have HSg := Lib.hid (And.intro HYg.out HXg.out); have HBg := Lib.hid (HBf.out.drew.trans (hbg.mono HBf.out.size)); (try dsimp only))
          refine hK.out _ _ ?_ (fun hHd1 => ?_)
          ·(try dsimp only); first | (with_reducible exact HSg.out) | (with_reducible exact HSh.out)
          clear hK K hHd0
          (try simp only [Act.put]); (try simp only [List.setIfInBounds_toArray]); (try simp only [List.set_cons_succ, List.set_cons_zero])
          refine wpAnyH_ready (rs := [3]) (by kernel_rfl) (by simp) ?_
          refine AllReadyH.cons (o := _) rfl (fun K hK => ?_) ?_
          ·(go_simp; refine (HE1.out _ _ wg _ _ ((HPf.out.below (Nat.le_refl _) (Below.refl _ _).drew).below (Nat.le_refl _) hbg) hog.has).mono ?_; rintro e wh ⟨rfl, hbh⟩; have HXh := Lib.hid (B5.below HXg.out hbh); have HYh := Lib.hid (B5.below HYg.out hbh); have HSh := Lib.hid (And.intro HYh.out HXh.out); have HBh := Lib.hid (HBg.out.trans (hbh.mono HBg.out.size)); have hbbh := (Below.refl wf.heap.size wf).drew.trans (hbg.trans (hbh.mono hbg.size)); (try dsimp only))
           refine hK.out _ _ ?_ (fun hHd2 => ?_)
           ·(try dsimp only); first | (with_reducible exact HSg.out) | (with_reducible exact HSh.out)
           clear hK K hHd1
           (try simp only [Act.put]); (try simp only [List.setIfInBounds_toArray]); (try simp only [List.set_cons_succ, List.set_cons_zero])
           refine wpAnyH_ready (rs := [4]) (by kernel_rfl) (by simp) ?_
           refine AllReadyH.cons (o := _) rfl (fun K hK => ?_) ?_
           ·go_simp
            refine hK.out _ _ ?_ (fun hHd3 => ?_)
            ·(try dsimp only); first | (with_reducible exact HSg.out) | (with_reducible exact HSh.out)
            clear hK K hHd2
            (try simp only [Act.put]); (try simp only [List.setIfInBounds_toArray]); (try simp only [List.set_cons_succ, List.set_cons_zero])
            refine wpAnyH_done (by kernel_rfl) ?_ _
            refine NoPanic.normal ?_
            have HQh := Lib.hid (HQf.out.below (Nat.le_refl _) hbbh)
            clear hbbh hbg hbh hog
            go_wp2_with fail
            refine wp_region_noPanic ?_
            refine wp_region_held_drew (S := (fun w' => B5 wa.heap.size wb.heap.size wc.heap.size (.slice F1 m1 f1) (.slice F2 m2 f2) (.slice F3 m3 f3) (.int .i64 o1) (.string (bstr n1)) (.int .i64 s1) (.slice G1 l1 g1) (.int .i64 o2) (.string (bstr n2)) (.int .i64 s2) (.slice G2 l2 g2) w' ∧ B5 w.heap.size (w.heap.size + 1) (w.heap.size + 2) (.slice A1 m1 c1) (.slice A2 m2 c2) (.slice A3 m3 c3) (.int .i64 o1) (.string (bstr n1)) (.int .i64 s1) (.slice B1 l1 d1) (.int .i64 o2) (.string (bstr n2)) (.int .i64 s2) (.slice B2 l2 d2) w')) (by kernel_rfl) ?_ (fun hHd0 => ?_)
            ·exact ⟨HYh.out, HXh.out⟩
            refine wpAnyH_take (i := 0) (v := ?_) rfl (by kernel_rfl) (by kernel_rfl) (by kernel_rfl) (fun _ _ _ h => h) (Or.inl ⟨by rfl, ?_⟩) (by with_reducible assumption) ?_
            rotate_left
            ·intro w hSw; (try dsimp only at hSw); go_simp <;> with_reducible rfl
            (try simp only [Act.put]); (try simp only [List.setIfInBounds_toArray]); (try simp only [List.set_cons_succ, List.set_cons_zero])
            refine wpAnyH_take (i := 1) (v := ?_) rfl (by kernel_rfl) (by kernel_rfl) (by kernel_rfl) (fun _ _ _ h => h) (Or.inl ⟨by rfl, ?_⟩) (by with_reducible assumption) ?_
            rotate_left
            ·intro w hSw; (try dsimp only at hSw); go_simp <;> with_reducible rfl
            (try simp only [Act.put]); (try simp only [List.setIfInBounds_toArray]); (try simp only [List.set_cons_succ, List.set_cons_zero])
            refine wpAnyH_ready (rs := [2]) (by kernel_rfl) (by simp) ?_
            refine AllReadyH.cons (o := _) rfl (fun K hK => ?_) ?_
            ·(go_simp; refine (HT2.out wh.drew HBh.out.drew HSM.out.2.2).mono ?_; rintro e wi ⟨vi, Si, rfl, hoi, hbi⟩; obtain ⟨K2, q2, rfl⟩ := HO2.out hoi; have HXi := Lib.hid (B5.below (w := wh.drew) HXh.out hbi); have HYi := Lib.hid (B5.below (w := wh.drew) HYh.out hbi); have HSi := Lib.hid (And.intro HYi.out HXi.out); have HBi := Lib.hid (HBh.out.drew.trans (hbi.mono HBh.out.size)); (try dsimp only))
             refine hK.out _ _ ?_ (fun hHd1 => ?_)
             ·(try dsimp only); first | (with_reducible exact HSi.out) | (with_reducible exact HSj.out)
             clear hK K hHd0
             (try simp only [Act.put]); (try simp only [List.setIfInBounds_toArray]); (try simp only [List.set_cons_succ, List.set_cons_zero])
             refine wpAnyH_ready (rs := [3]) (by kernel_rfl) (by simp) ?_
             refine AllReadyH.cons (o := _) rfl (fun K hK => ?_) ?_
             ·(go_simp; refine (HE2.out _ _ wi _ _ ((HQh.out.below (Nat.le_refl _) (Below.refl _ _).drew).below (Nat.le_refl _) hbi) hoi.has).mono ?_; rintro e wj ⟨rfl, hbj⟩; have HXj := Lib.hid (B5.below HXi.out hbj); have HYj := Lib.hid (B5.below HYi.out hbj); have HSj := Lib.hid (And.intro HYj.out HXj.out); have HBj := Lib.hid (HBi.out.trans (hbj.mono HBi.out.size)); have hbbj := (Below.refl wh.heap.size wh).drew.trans (hbi.trans (hbj.mono hbi.size)); (try dsimp only))
              refine hK.out _ _ ?_ (fun hHd2 => ?_)
              ·(try dsimp only); first | (with_reducible exact HSi.out) | (with_reducible exact HSj.out)
              clear hK K hHd1
              (try simp only [Act.put]); (try simp only [List.setIfInBounds_toArray]); (try simp only [List.set_cons_succ, List.set_cons_zero])
              refine wpAnyH_ready (rs := [4]) (by kernel_rfl) (by simp) ?_
              refine AllReadyH.cons (o := _) rfl (fun K hK => ?_) ?_
              ·go_simp
               refine hK.out _ _ ?_ (fun hHd3 => ?_)
               ·(try dsimp only); first | (with_reducible exact HSi.out) | (with_reducible exact HSj.out)
               clear hK K hHd2
               (try simp only [Act.put]); (try simp only [List.setIfInBounds_toArray]); (try simp only [List.set_cons_succ, List.set_cons_zero])
               refine wpAnyH_done (by kernel_rfl) ?_ _
               refine NoPanic.normal ?_
               go_wp2
               go_ret
               exact ⟨rfl, HBj.out⟩
              exact AllReadyH.nil
             exact AllReadyH.nil
            exact AllReadyH.nil
           exact AllReadyH.nil
          exact AllReadyH.nil
         exact AllReadyH.nil
        exact AllReadyH.nil
       exact AllReadyH.nil
      exact AllReadyH.nil
     exact AllReadyH.nil
    exact AllReadyH.nil
   exact AllReadyH.nil
  exact AllReadyH.nil
 exact AllReadyH.nil
set_option maxRecDepth 100000 in
theorem walk {H : Type} {enc : TypeId × Value → H} {W : World} {base base' base'' : Nat} {v v' v'' : Value} {d d' d'' : DataW H} {p p' p'' : List MemPlace}
  (hval : Value.okWide Tryz.prog W .any base 28 v) (hd : DataW.Trod enc Tryz.prog W 0 (fun _ => true) true 28 v d p) (_hlt : ∀ x ∈ p, x.block < W.heap.size)
  (hval' : Value.okWide Tryz.prog W .any base' 53 v') (hd' : DataW.Trod enc Tryz.prog W 0 (fun _ => true) true 53 v' d' p') (_hlt' : ∀ x ∈ p', x.block < W.heap.size)
  (hval'' : Value.okWide Tryz.prog W .any base'' 53 v'') (hd'' : DataW.Trod enc Tryz.prog W 0 (fun _ => true) true 53 v'' d'' p'') (_hlt'' : ∀ x ∈ p'', x.block < W.heap.size) :
  Calls Tryz.prog 4 #[v, v', v''] W fun e w' => e = .returned (.bool true) ∧ Below W.heap.size W w' := by
 obtain ⟨va, vb, vc, P, Q, O, rfl, h⟩ := sigo.has_sig hval hd
 obtain ⟨n, t, vt, rfl, ht, hB⟩ := termop.has_term hval' hd'
 obtain ⟨m, s, vs, rfl, hs, hB'⟩ := termop.has_term hval'' hd''
 exact go P Q O va vb vc t s vt vs W h (ht.up (Nat.le_max_left n m)) (hs.up (Nat.le_max_right n m)) hB hB'
end Go.Proofs.YtkkmjaggebjcbaaGreat.fnExactEqualModulo
