/-
  impl.sortRulesOf.
-/
import Derived.Test.YtjejdcehlckfhaaGreatTsl
import Derived.Test.YtjejdcehlckfhaaGreatTsa
import Derived.Test.YtjejdcehlckfhaaGreatSortg
import Derived.Test.YtjejdcehlckfhaaGreatSigk
namespace Go.Proofs.YtjejdcehlckfhaaGreat.tso
open Go.ChangeShapes Go.WideShapes Go.ChangeAt Go.RowKit
open mem dec split strl subs sortn setm sets sortm sortp sorti sortg rowl sigm sigi sigs sigk trm trmv terml termb termt termx rowg gram gramo tsa tsm tsi tsj tsk tsl

theorem mapU_shapeH {w : World} {v : Value} {U : List Nat} (h : MapU w v U) : ∃ mm, v = .map mm := by
  rcases h with ⟨rfl, _⟩ | ⟨b, _, _, rfl, _⟩
  · exact ⟨none, rfl⟩
  · exact ⟨some b, rfl⟩
/-- a block without numbers and strings turns: what is read elsewhere stays -/
structure Apart (y : Nat) (w w' : World) : Prop where
  size : w.heap.size ≤ w'.heap.size
  block : ∀ g, g ≠ y → w'.heap[g]? = w.heap[g]?
  noInt : ∀ o k n, w.cell? ⟨y, o, none⟩ ≠ some (.int k n)
  noStr : ∀ o b, w.cell? ⟨y, o, none⟩ ≠ some (.string b)
  noMap : ∀ es c, w.heap[y]? ≠ some (Obj.map es c)
theorem Apart.cell {y : Nat} {w w' : World} (h : Apart y w w') {g o : Nat} (hg : g ≠ y) : w'.cell? ⟨g, o, none⟩ = w.cell? ⟨g, o, none⟩ := World.cell?_of_block (w := w) (h.block g hg)
theorem HasL.apart {lo y : Nat} {w w' : World} {v : Value} {L : List Int} (h : HasL lo w v (ivs L)) (hA : Apart y w w') : HasL lo w' v (ivs L) := by
  obtain ⟨A, c, rfl, h1, h2, h3⟩ := h
  refine ⟨A, c, rfl, h1, h2, fun j u hu => ?_⟩
  obtain ⟨g, o, e, hl, hg, hc⟩ := h3 j u hu
  have hgy : g ≠ y := fun e => by
    subst e
    have hj := (List.getElem?_eq_some_iff.1 hu).1
    rw [ivs_len] at hj
    have : u = .int .i64 (L[j]) := by
      have := hu
      simp [ivs, List.getElem?_eq_getElem hj] at this
      exact this.symm
    rw [this] at hc
    exact hA.noInt _ _ _ hc
  exact ⟨g, o, e, hl, Nat.lt_of_lt_of_le hg hA.size, (hA.cell hgy).trans hc⟩
theorem HasD.apart {lo y : Nat} {w w' : World} {v : Value} {L : List (List Int × Int)} (h : HasD lo w v L) (hA : Apart y w w') : HasD lo w' v L := by
  obtain ⟨A, c, rfl, h1, h2, h3⟩ := h
  refine ⟨A, c, rfl, h1, h2, fun j hj => ?_⟩
  obtain ⟨g, o, cs, e, hl, hg, hc, va, hcs, hh, h4, h5⟩ := h3 j hj
  have hgy : g ≠ y := fun e => by
    subst e
    have := hc 1 (by omega)
    rw [hcs] at this
    exact hA.noInt _ _ _ this
  exact ⟨g, o, cs, e, hl, Nat.lt_of_lt_of_le hg hA.size, fun i hi => (hA.cell hgy).trans (hc i hi), va, hcs, HasL.apart hh hA, h4, h5⟩
theorem HasE.apart {y : Nat} {w w' : World} {v : Value} {L : List OpE} (h : HasE w v L) (hA : Apart y w w') : HasE w' v L := by
  obtain ⟨A, c, rfl, h1, h2, h3⟩ := h
  refine ⟨A, c, rfl, h1, h2, fun j hj => ?_⟩
  obtain ⟨g, o, cs, e, hl, hg, hc, vd, hcs, hh, h4, h5⟩ := h3 j hj
  have hgy : g ≠ y := fun e => by
    subst e
    have := hc 0 (by omega)
    rw [hcs] at this
    exact hA.noStr _ _ this
  exact ⟨g, o, cs, e, hl, Nat.lt_of_lt_of_le hg hA.size, fun i hi => (hA.cell hgy).trans (hc i hi), vd, hcs, HasD.apart hh hA, h4, h5⟩
theorem HasM.apart {y : Nat} {w w' : World} {mv sv : Value} {G : GrM} (h : HasM w mv sv G) (hA : Apart y w w') : HasM w' mv sv G :=
  ⟨mapU_blk h.m (fun b es c hb => hA.block b (fun e => hA.noMap es c (e ▸ hb))), HasE.apart h.e hA⟩
theorem apart_set {y : Nat} {w : World} {a b : Option Nat} {s : Option Addr} {n c : Nat} {t : TypeId} (h : w.heap[y]? = some (.cells #[.map a, .slice s n c, .map b] t (0, 0))) (u0 u1 u2 : Value) :
    Apart y w (((w.setCell ⟨y, 0, none⟩ u0).setCell ⟨y, 1, none⟩ u1).setCell ⟨y, 2, none⟩ u2) := by
  have hc : ∀ o x, w.cell? ⟨y, o, none⟩ = some x → x = .map a ∨ x = .slice s n c ∨ x = .map b := fun o x hx => by
    match o, hx with
    | 0, hx => rw [cell_of_row w y 0 _ _ _ h] at hx; exact .inl (by simpa using hx.symm)
    | 1, hx => rw [cell_of_row w y 1 _ _ _ h] at hx; exact .inr (.inl (by simpa using hx.symm))
    | 2, hx => rw [cell_of_row w y 2 _ _ _ h] at hx; exact .inr (.inr (by simpa using hx.symm))
    | o + 3, hx => rw [cell_of_row w y (o + 3) _ _ _ h] at hx; simp at hx
  refine ⟨by simp [World.setCell], fun g hg => ?_, fun o k m hx => ?_, fun o b hx => ?_, fun es c' hx => ?_⟩
  · exact (Below.heap_setCell _ ⟨y, 2, none⟩ _ g hg).trans ((Below.heap_setCell _ ⟨y, 1, none⟩ _ g hg).trans (Below.heap_setCell _ ⟨y, 0, none⟩ _ g hg))
  · rcases hc o _ hx with e | e | e <;> cases e
  · rcases hc o _ hx with e | e | e <;> cases e
  · rw [h] at hx; cases hx
abbrev SRul (x : Nat) (v0 v1 v2 : Value) (B : Nat) (W w : World) : Prop := (w.cell? ⟨x, 0, none⟩ = some v0 ∧ w.cell? ⟨x, 1, none⟩ = some v1 ∧ w.cell? ⟨x, 2, none⟩ = some v2) ∧ Below B W w
theorem SRul.of {x : Nat} {v0 v1 v2 : Value} {B : Nat} {W w : World} (h : SRul x v0 v1 v2 B W W) (hx : x < B) (hb : Below B W w) : SRul x v0 v1 v2 B W w := by
  have k : ∀ z, w.cell? ⟨x, z, none⟩ = W.cell? ⟨x, z, none⟩ := fun z => hb.cell (p := ⟨x, z, none⟩) hx
  refine ⟨?_, hb⟩
  rw [k, k, k]
  exact h.1
set_option maxRecDepth 50000 in
set_option maxHeartbeats 8000000 in
/-- impl.sortRulesOf -/
theorem rules_any (P : List (List UInt8)) (Q : List (Int × Int)) (O : List OpM) (va vb vc : Value) (w : World) (h : HasG w va vb vc P Q O) :
    Calls Tryz.prog 40 #[.agg #[va, vb, vc]] w fun e w' => ∃ mm A c um, e = .returned (.agg #[.map mm, .slice A (grM P Q O).E.length c, .map um]) ∧ HasM w' (.map mm) (.slice A (grM P Q O).E.length c) (grM P Q O) ∧ MapU w' (.map um) (ordU P Q) ∧ Below w.heap.size w w' := by
  have HGR := Lib.hid (fun W (hW : Below w.heap.size w W) => grammarOf_any P Q O va vb vc W (h.below (Nat.le_refl _) hW))
  have HSO := Lib.hid (fun W (hW : Below w.heap.size w W) => sortOrder_any P Q va vb W (h.s.below (Nat.le_refl _) hW))
  obtain ⟨A1, c1, A2, c2, A3, c3, rfl, rfl, rfl, _⟩ := h.shape
  obtain ⟨m1, hm1⟩ : ∃ q, q = P.length := ⟨_, rfl⟩
  obtain ⟨m2, hm2⟩ : ∃ q, q = Q.length := ⟨_, rfl⟩
  obtain ⟨m3, hm3⟩ : ∃ q, q = O.length := ⟨_, rfl⟩
  rw [← hm1, ← hm2, ← hm3] at HGR ⊢
  rw [← hm1, ← hm2] at HSO
  obtain ⟨G, hG⟩ : ∃ G, G = grM P Q O := ⟨_, rfl⟩
  rw [← hG] at HGR ⊢
  obtain ⟨U, hU⟩ : ∃ U, U = ordU P Q := ⟨_, rfl⟩
  rw [← hU] at HSO ⊢
  clear h hm1 hm2 hm3 hG hU
  obtain ⟨W, hW⟩ : ∃ W, W = (w.alloc (.cells #[.slice A1 m1 c1, .slice A2 m2 c2, .slice A3 m3 c3] 40)).alloc (.cells #[.map none, .slice none 0 0, .map none] 82) := ⟨_, rfl⟩
  have hb0 : Below w.heap.size w W := by
    rw [hW]
    repeat (first | exact Below.refl _ _ | refine Below.alloc ?_ (by first | (simp; done) | (simp; omega)) _)
  have hX0 : SRul w.heap.size (.slice A1 m1 c1) (.slice A2 m2 c2) (.slice A3 m3 c3) (w.heap.size + 1) W W := by
    rw [hW]
    exact ⟨tsl.box3 (tsl.heap2a _ _ _), Below.refl _ _⟩
  have hy0 : W.heap[w.heap.size + 1]? = some (.cells #[.map none, .slice none 0 0, .map none] 82 (0, 0)) := by rw [hW]; exact termt.heap_at _ _ _ (by simp)
  have hz : W.heap.size = w.heap.size + 2 := by rw [hW]; simp
  have HB0 := Lib.hid hb0
  have HX0 := Lib.hid hX0
  have HY0 := Lib.hid hy0
  have HZ := Lib.hid hz
  obtain ⟨x0, x1, x2⟩ := hX0.1
  clear hb0 hX0 hy0 hz
  go_enter Tryz.func40, Tryz.ntmps40
  go_wp2_with fail
  rw [← hW]
  clear hW
  refine wp_region_noPanic ?_
  refine wp_region_held_drew (S := (SRul w.heap.size (.slice A1 m1 c1) (.slice A2 m2 c2) (.slice A3 m3 c3) (w.heap.size + 1) W)) (by kernel_rfl) ?_ (fun hHd0 => ?_)
  · exact HX0.out.of (Nat.lt_succ_self _) (by first | exact (Below.refl _ _).drew | exact HB1.out.mono (by rw [HZ.out]; omega) | exact HB2.out.mono (by rw [HZ.out]; omega) | exact HST.out _ _ _)
  refine wpAnyH_take (i := 0) (v := ?_) rfl (by kernel_rfl) (by kernel_rfl) (by kernel_rfl) (fun _ _ _ h => h) (Or.inl ⟨by rfl, ?_⟩) (by with_reducible assumption) ?_
  rotate_left
  · intro w hSw; (try dsimp only at hSw); go_simp <;> with_reducible rfl
  (try simp only [Act.put]); (try simp only [List.setIfInBounds_toArray]); (try simp only [List.set_cons_succ, List.set_cons_zero])
  refine wpAnyH_take (i := 2) (v := ?_) rfl (by kernel_rfl) (by kernel_rfl) (by kernel_rfl) (fun _ _ _ h => h) (Or.inl ⟨by rfl, ?_⟩) (by with_reducible assumption) ?_
  rotate_left
  · intro w hSw; (try dsimp only at hSw); go_simp <;> with_reducible rfl
  (try simp only [Act.put]); (try simp only [List.setIfInBounds_toArray]); (try simp only [List.set_cons_succ, List.set_cons_zero])
  refine wpAnyH_take (i := 3) (v := ?_) rfl (by kernel_rfl) (by kernel_rfl) (by kernel_rfl) (fun _ _ _ h => h) (Or.inl ⟨by rfl, ?_⟩) (by with_reducible assumption) ?_
  rotate_left
  · intro w hSw; (try dsimp only at hSw); go_simp <;> with_reducible rfl
  (try simp only [Act.put]); (try simp only [List.setIfInBounds_toArray]); (try simp only [List.set_cons_succ, List.set_cons_zero])
  refine wpAnyH_ready (rs := [1]) (by kernel_rfl) (by simp) ?_
  refine AllReadyH.cons (o := _) rfl (fun K hK => ?_) ?_
  · (go_simp; refine (HGR.out W.drew HB0.out.drew).mono ?_; rintro e w1 ⟨mv, A, c, rfl, hM, hmv, hb1⟩; obtain ⟨mm, rfl⟩ := mapU_shapeH hM.m; have HM := Lib.hid hM; have HB1 : Hid (Below W.heap.size W w1) := Lib.hid ((Below.refl _ _).drew.trans hb1); have HB1w : Hid (Below w.heap.size w w1) := Lib.hid (HB0.out.trans (HB1.out.mono HB0.out.size)); clear hM hb1 hmv; (try dsimp only))
    refine hK.out _ _ ?_ (fun hHd1 => ?_)
    · (try dsimp only); exact HX0.out.of (Nat.lt_succ_self _) (by first | exact (Below.refl _ _).drew | exact HB1.out.mono (by rw [HZ.out]; omega) | exact HB2.out.mono (by rw [HZ.out]; omega) | exact HST.out _ _ _)
    clear hK K hHd0
    (try simp only [Act.put]); (try simp only [List.setIfInBounds_toArray]); (try simp only [List.set_cons_succ, List.set_cons_zero])
    refine wpAnyH_ready (rs := [4]) (by kernel_rfl) (by simp) ?_
    refine AllReadyH.cons (o := _) rfl (fun K hK => ?_) ?_
    · (go_simp; refine (HSO.out w1 HB1w.out).mono ?_; rintro e w2 ⟨uv, rfl, hU, _, _, hb2⟩; obtain ⟨um, rfl⟩ := mapU_shapeH hU; have HU := Lib.hid hU; have HB2 : Hid (Below W.heap.size W w2) := Lib.hid (HB1.out.trans (hb2.mono HB1.out.size)); have HB2w : Hid (Below w.heap.size w w2) := Lib.hid (HB0.out.trans (HB2.out.mono HB0.out.size)); have HM2 := Lib.hid (HM.out.below hb2); have HY2 : Hid (w2.heap[w.heap.size + 1]? = some (.cells #[.map none, .slice none 0 0, .map none] 82 (0, 0))) := Lib.hid ((HB2.out.block _ (by rw [HZ.out]; omega)).trans HY0.out); have d0 := cell_of_row w2 _ 0 _ _ _ HY2.out; have d1 := cell_of_row w2 _ 1 _ _ _ HY2.out; have d2 := cell_of_row w2 _ 2 _ _ _ HY2.out; have f0 := frozen_of_row w2 _ 0 _ _ HY2.out; have f1 := frozen_of_row w2 _ 1 _ _ HY2.out; have f2 := frozen_of_row w2 _ 2 _ _ HY2.out; have HST : Hid (∀ u0 u1 u2, Below (w.heap.size + 1) W (((w2.setCell ⟨w.heap.size + 1, 0, none⟩ u0).setCell ⟨w.heap.size + 1, 1, none⟩ u1).setCell ⟨w.heap.size + 1, 2, none⟩ u2)) := Lib.hid (fun u0 u1 u2 => (((HB2.out.mono (B' := w.heap.size + 1) (by rw [HZ.out]; omega)).setCell (p := ⟨w.heap.size + 1, 0, none⟩) (Nat.le_refl _) u0).setCell (p := ⟨w.heap.size + 1, 1, none⟩) (Nat.le_refl _) u1).setCell (p := ⟨w.heap.size + 1, 2, none⟩) (Nat.le_refl _) u2); clear hU hb2; (try dsimp only))
      refine hK.out _ _ ?_ (fun hHd2 => ?_)
      · (try dsimp only); exact HX0.out.of (Nat.lt_succ_self _) (by first | exact (Below.refl _ _).drew | exact HB1.out.mono (by rw [HZ.out]; omega) | exact HB2.out.mono (by rw [HZ.out]; omega) | exact HST.out _ _ _)
      clear hK K hHd1
      (try simp only [Act.put]); (try simp only [List.setIfInBounds_toArray]); (try simp only [List.set_cons_succ, List.set_cons_zero])
      refine wpAnyH_take (i := 5) (v := ?_) rfl (by kernel_rfl) (by kernel_rfl) (by kernel_rfl) (fun _ _ _ h => h) (Or.inl ⟨by rfl, ?_⟩) (by with_reducible assumption) ?_
      rotate_left
      · intro w hSw; (try dsimp only at hSw); go_simp <;> with_reducible rfl
      (try simp only [Act.put]); (try simp only [List.setIfInBounds_toArray]); (try simp only [List.set_cons_succ, List.set_cons_zero])
      refine wpAnyH_ready (rs := [6]) (by kernel_rfl) (by simp) ?_
      refine AllReadyH.cons (o := _) rfl (fun K hK => ?_) ?_
      · go_simp
        refine hK.out _ _ ?_ (fun hHd3 => ?_)
        · (try dsimp only); exact HX0.out.of (Nat.lt_succ_self _) (by first | exact (Below.refl _ _).drew | exact HB1.out.mono (by rw [HZ.out]; omega) | exact HB2.out.mono (by rw [HZ.out]; omega) | exact HST.out _ _ _)
        clear hK K hHd2
        (try simp only [Act.put]); (try simp only [List.setIfInBounds_toArray]); (try simp only [List.set_cons_succ, List.set_cons_zero])
        refine wpAnyH_done (by kernel_rfl) ?_ _
        refine NoPanic.normal ?_
        have HA := Lib.hid (apart_set HY2.out (.map mm) (.slice A G.E.length c) (.map um))
        have HR : Hid (HasM (((w2.setCell ⟨w.heap.size + 1, 0, none⟩ (.map mm)).setCell ⟨w.heap.size + 1, 1, none⟩ (.slice A G.E.length c)).setCell ⟨w.heap.size + 1, 2, none⟩ (.map um)) (.map mm) (.slice A G.E.length c) G ∧ MapU (((w2.setCell ⟨w.heap.size + 1, 0, none⟩ (.map mm)).setCell ⟨w.heap.size + 1, 1, none⟩ (.slice A G.E.length c)).setCell ⟨w.heap.size + 1, 2, none⟩ (.map um)) (.map um) U ∧ Below w.heap.size w (((w2.setCell ⟨w.heap.size + 1, 0, none⟩ (.map mm)).setCell ⟨w.heap.size + 1, 1, none⟩ (.slice A G.E.length c)).setCell ⟨w.heap.size + 1, 2, none⟩ (.map um))) := Lib.hid ⟨HasM.apart HM2.out HA.out, mapU_blk HU.out (fun b es c hb => HA.out.block b (fun e => HA.out.noMap es c (e ▸ hb))), HB0.out.trans ((HST.out _ _ _).mono (by omega))⟩
        have hsz2 : w.heap.size + 1 < w2.heap.size := by have := HB2.out.size; rw [HZ.out] at this; omega
        go_wp2
        refine bodyPost_ret (v := .agg #[.map mm, .slice A G.E.length c, .map um]) (by simp [results, Tryz.results40, go_sem, d0, d1, d2]) rfl ?_
        exact ⟨mm, A, c, um, rfl, HR.out⟩
      exact AllReadyH.nil
    exact AllReadyH.nil
  exact AllReadyH.nil
end Go.Proofs.YtjejdcehlckfhaaGreat.tso
