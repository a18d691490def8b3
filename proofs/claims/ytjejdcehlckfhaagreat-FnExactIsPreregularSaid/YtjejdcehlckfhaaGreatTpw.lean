/-
  THE WALK OF FnExactIsPreregular.
-/
import Derived.Test.YtjejdcehlckfhaaGreatTpi
import Derived.Test.YtjejdcehlckfhaaGreatTps
import Derived.Test.YtjejdcehlckfhaaGreatSigx
set_option maxRecDepth 100000
namespace Go.Proofs.YtjejdcehlckfhaaGreat.fnExactIsPreregular
open Go.ChangeShapes Go.WideShapes Go.ChangeAt Go.RowKit
open mem split strl join subs sortn setm sets sortm sortp sorti sortf sortu sorts sortg rowl sigm sigs sigt sigu sige sigx

set_option maxHeartbeats 4000000 in
theorem go (P : List (List UInt8)) (Q : List (Int × Int)) (O : List OpM) (va vb vc : Value) (w : World) (h : HasG w va vb vc P Q O) :
    Calls Tryz.prog 5 #[.agg #[va, vb, vc]] w fun e w' => e = .returned (.bool true) ∧ Below w.heap.size w w' := by
  have HSZ := Lib.hid (fun W (hW : Below w.heap.size w W) => szSignature_any P Q O va vb vc W (h.below (Nat.le_refl _) hW))
  have HTO := Lib.hid (fun W (hW : Below w.heap.size w W) (hs : (Small P ∧ Q.length ≤ 1048576) ∧ SmO O) => toSignature_any P Q O hs va vb vc W (h.below (Nat.le_refl _) hW))
  obtain ⟨A, ca, B, cb, C, cc, rfl, rfl, rfl, hla, hlb, hlc, _⟩ := h.shape
  obtain ⟨R, hR⟩ : ∃ R, tpi.preB P Q O = R := ⟨_, rfl⟩
  have HSP := Lib.hid (fun v1 v2 v3 W (hW : HasG W v1 v2 v3 P Q O) => tps.sPre_any P Q O v1 v2 v3 R hR W hW)
  have HIM := Lib.hid (fun v1 v2 v3 W (hW : HasG W v1 v2 v3 P Q O) => tpi.iPre_any P Q O v1 v2 v3 R hR W hW)
  clear hR
  obtain ⟨nO, hnO⟩ : ∃ n, n = O.length := ⟨_, rfl⟩
  have HNO := Lib.hid hnO
  rw [← hnO] at hlc HSZ HTO ⊢
  clear h hnO
  go_enter Tryz.func5, Tryz.ntmps5
  go_wp2_with fail
  refine (HSZ.out _ ((Below.refl _ _).alloc (Nat.le_refl _) _)).mono ?_
  rintro e w1 ⟨r, rfl, hr, hr1, hr2, hb1⟩
  have hbw1 : Below w.heap.size w w1 := ((Below.refl _ _).alloc (Nat.le_refl _) _).trans (hb1.mono (by simp))
  have c0 : w1.cell? ⟨w.heap.size, 0, none⟩ = some (.slice A P.length ca) := by rw [hb1.cell (p := ⟨w.heap.size, 0, none⟩) (by simp)]; simp
  have c1 : w1.cell? ⟨w.heap.size, 1, none⟩ = some (.slice B Q.length cb) := by rw [hb1.cell (p := ⟨w.heap.size, 1, none⟩) (by simp)]; simp
  have c2 : w1.cell? ⟨w.heap.size, 2, none⟩ = some (.slice C nO cc) := by rw [hb1.cell (p := ⟨w.heap.size, 2, none⟩) (by simp)]; simp
  have hs1 : w.heap.size < w1.heap.size := by have := hb1.size; simp at this; omega
  clear hb1
  by_cases hneg : r < 0
  · go_wp2
    go_ret
    exact ⟨rfl, hbw1⟩
  have HSM := Lib.hid (hr (by omega))
  clear hr
  go_wp2_with fail
  refine (HTO.out _ hbw1 HSM.out).mono ?_
  rintro e w2 ⟨v1, v2, v3, rfl, hG, hb2⟩
  have HS2 := Lib.hid hG
  have d0 : w2.cell? ⟨w.heap.size, 0, none⟩ = some (.slice A P.length ca) := (hb2.cell (by exact hs1)).trans c0
  have d1 : w2.cell? ⟨w.heap.size, 1, none⟩ = some (.slice B Q.length cb) := (hb2.cell (by exact hs1)).trans c1
  have d2 : w2.cell? ⟨w.heap.size, 2, none⟩ = some (.slice C nO cc) := (hb2.cell (by exact hs1)).trans c2
  have hbw2 := hbw1.trans (hb2.mono hbw1.size)
  have hs2 : w.heap.size < w2.heap.size := Nat.lt_of_lt_of_le hs1 hb2.size
  clear hG hb2 c0 c1 c2
  go_wp2_with fail
  refine (HSP.out _ _ _ _ HS2.out).mono ?_
  rintro e w3 ⟨rfl, hb3⟩
  have e0 : w3.cell? ⟨w.heap.size, 0, none⟩ = some (.slice A P.length ca) := (hb3.cell (by exact hs2)).trans d0
  have e1 : w3.cell? ⟨w.heap.size, 1, none⟩ = some (.slice B Q.length cb) := (hb3.cell (by exact hs2)).trans d1
  have e2 : w3.cell? ⟨w.heap.size, 2, none⟩ = some (.slice C nO cc) := (hb3.cell (by exact hs2)).trans d2
  have hbw3 := hbw2.trans (hb3.mono hbw2.size)
  have hs3 : w.heap.size < w3.heap.size := Nat.lt_of_lt_of_le hs2 hb3.size
  clear hb3 d0 d1 d2 HS2
  go_wp2_with fail
  refine (HTO.out _ hbw3 HSM.out).mono ?_
  rintro e w4 ⟨v4, v5, v6, rfl, hG, hb4⟩
  obtain ⟨A3, c3, B3, c4, C3, c5, rfl, rfl, rfl, _, _, _, hS4⟩ := hG.shape
  rw [← HNO.out] at hS4 ⊢
  have HS4 := Lib.hid hS4
  have f0 : w4.cell? ⟨w.heap.size, 0, none⟩ = some (.slice A P.length ca) := (hb4.cell (by exact hs3)).trans e0
  have f1 : w4.cell? ⟨w.heap.size, 1, none⟩ = some (.slice B Q.length cb) := (hb4.cell (by exact hs3)).trans e1
  have f2 : w4.cell? ⟨w.heap.size, 2, none⟩ = some (.slice C nO cc) := (hb4.cell (by exact hs3)).trans e2
  have hbw4 := hbw3.trans (hb4.mono hbw3.size)
  have hs4 : w.heap.size < w4.heap.size := Nat.lt_of_lt_of_le hs3 hb4.size
  clear hG hb4 e0 e1 e2 hS4
  go_wp2_with fail
  refine (HIM.out _ _ _ _ (HS4.out.below (Nat.le_refl _) ((Below.refl _ _).alloc (Nat.le_refl _) _))).mono ?_
  rintro e w5 ⟨rfl, hb5⟩
  have hb45 : Below w4.heap.size w4 w5 := ((Below.refl _ _).alloc (Nat.le_refl _) _).trans (hb5.mono (by simp))
  have g0 : w5.cell? ⟨w.heap.size, 0, none⟩ = some (.slice A P.length ca) := (hb45.cell (by exact hs4)).trans f0
  have g1 : w5.cell? ⟨w.heap.size, 1, none⟩ = some (.slice B Q.length cb) := (hb45.cell (by exact hs4)).trans f1
  have g2 : w5.cell? ⟨w.heap.size, 2, none⟩ = some (.slice C nO cc) := (hb45.cell (by exact hs4)).trans f2
  have k0 : w5.cell? ⟨w4.heap.size, 0, none⟩ = some (.slice A3 P.length c3) := by rw [hb5.cell (p := ⟨w4.heap.size, 0, none⟩) (by simp)]; simp
  have k1 : w5.cell? ⟨w4.heap.size, 1, none⟩ = some (.slice B3 Q.length c4) := by rw [hb5.cell (p := ⟨w4.heap.size, 1, none⟩) (by simp)]; simp
  have k2 : w5.cell? ⟨w4.heap.size, 2, none⟩ = some (.slice C3 nO c5) := by rw [hb5.cell (p := ⟨w4.heap.size, 2, none⟩) (by simp)]; simp
  have hbw5 := hbw4.trans (hb45.mono hbw4.size)
  have hs5 : w.heap.size < w5.heap.size := Nat.lt_of_lt_of_le hs4 hb45.size
  have hs45 : w4.heap.size < w5.heap.size := by have := hb5.size; simp at this; omega
  have HS5 := Lib.hid (HS4.out.below (Nat.le_refl _) hb45)
  clear hb5 hb45 f0 f1 f2 HS4
  go_wp2_with fail
  go_region_held3 (fun w' => (w'.cell? ⟨w4.heap.size, 0, none⟩ = some (.slice A3 P.length c3) ∧ w'.cell? ⟨w4.heap.size, 1, none⟩ = some (.slice B3 Q.length c4) ∧ w'.cell? ⟨w4.heap.size, 2, none⟩ = some (.slice C3 nO c5) ∧ w'.cell? ⟨w.heap.size, 0, none⟩ = some (.slice A P.length ca) ∧ w'.cell? ⟨w.heap.size, 1, none⟩ = some (.slice B Q.length cb) ∧ w'.cell? ⟨w.heap.size, 2, none⟩ = some (.slice C nO cc)) ∧ Below w5.heap.size w5 w')
    (first | (refine ⟨⟨?_, ?_, ?_, ?_, ?_, ?_⟩, (Below.refl _ _).drew⟩ <;> assumption) | (go_split_ands; exact keep_33 (g := w4.heap.size) (g' := w.heap.size) ⟨⟨by assumption, by assumption, by assumption, by assumption, by assumption, by assumption⟩, by assumption⟩ ⟨hs45, hs5⟩ (by assumption)))
    (first
      | (go_at_call 11; go_split_ands; refine (HTO.out _ (hbw5.trans (Below.mono (by assumption) hbw5.size)) HSM.out).mono ?_; rintro e w6 ⟨v7, v8, v9, rfl, hG6, hb6'⟩; have HG6 := Lib.hid hG6; clear hG6)
      | (go_at_call 14; go_split_ands; refine (eqSignature_same P Q O _ _ _ _ _ _ _ (HS5.out.below (Nat.le_refl _) (by assumption)) HG6.out).mono ?_; rintro e w7 ⟨rfl, hb7⟩))
  go_wp2
  have hh : Below w5.heap.size w5 w7 := by go_split_ands; assumption
  go_ret
  exact ⟨rfl, hbw5.trans (hh.mono hbw5.size)⟩
theorem walk {H : Type} {enc : TypeId × Value → H} {W : World} {base : Nat} {v : Value} {d : DataW H} {p : List MemPlace}
    (hval : Value.okWide Tryz.prog W .any base 28 v) (hd : DataW.Trod enc Tryz.prog W 0 (fun _ => true) true 28 v d p) (_hlt : ∀ x ∈ p, x.block < W.heap.size) :
    Calls Tryz.prog 5 #[v] W fun e w' => e = .returned (.bool true) ∧ Below W.heap.size W w' := by
  obtain ⟨va, vb, vc, P, Q, O, rfl, h⟩ := sigo.has_sig hval hd
  exact go P Q O va vb vc W h
end Go.Proofs.YtjejdcehlckfhaaGreat.fnExactIsPreregular
