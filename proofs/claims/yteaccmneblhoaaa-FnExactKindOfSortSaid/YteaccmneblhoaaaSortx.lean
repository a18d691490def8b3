/-
  THE EXACT LAWS OF SORTS.
-/
import Derived.Test.YteaccmneblhoaaaSortg
import Derived.Test.YteaccmneblhoaaaLaw
import Derived.Test.YteaccmneblhoaaaSorto
set_option maxRecDepth 100000
namespace Go.Proofs.Yteaccmneblhoaaa.sortx
open Go.ChangeShapes Go.WideShapes Go.ChangeAt Go.RowKit
open mem split strl join subs sortn setm sets sortm sortp sorti sortf sortu sorts sortg

theorem keep_two {wr w0 w1 : World} {p q : Addr} {a b : Value} (h : (w0.cell? p = some a ∧ w0.cell? q = some b) ∧ Below wr.heap.size wr w0) (hp : p.block < wr.heap.size ∧ q.block < wr.heap.size) (hb : Below w0.heap.size w0 w1) :
    (w1.cell? p = some a ∧ w1.cell? q = some b) ∧ Below wr.heap.size wr w1 := by
  have hs := h.2.size
  exact ⟨⟨(hb.cell (by omega)).trans h.1.1, (hb.cell (by omega)).trans h.1.2⟩, h.2.trans (hb.mono hs)⟩
end Go.Proofs.Yteaccmneblhoaaa.sortx
namespace Go.Proofs.Yteaccmneblhoaaa.fnExactKindOfSort
open Go.ChangeShapes Go.WideShapes Go.ChangeAt Go.RowKit
open mem split strl join subs sortn setm sets sortm sortp sorti sortf sortu sorts sortg sortx

set_option maxHeartbeats 2000000 in
theorem go (P : List (List UInt8)) (Q : List (Int × Int)) (va vb : Value) (x : Int) (h1 : -9223372036854775808 ≤ x) (h2 : x ≤ 9223372036854775807) (w : World) (h : HasS w va vb P Q) :
    Calls Try.prog 4 #[.agg #[va, vb], .int .i64 x] w fun e w' => e = .returned (.bool true) ∧ Below w.heap.size w w' := by
  obtain ⟨A, ca, B, cb, rfl, rfl, hla, hlb, h'⟩ := h.shape
  have HH := Lib.hid h'
  have HSZ := Lib.hid (fun W (hW : Below w.heap.size w W) => szSorts_any P h'.short Q _ _ W (h'.below (Nat.le_refl _) hW).a (h'.below (Nat.le_refl _) hW).b)
  have HTO := Lib.hid (fun W (hW : Below w.heap.size w W) (hs : Small P ∧ Q.length ≤ 1048576) => toSorts_any P hs.1.1 Q hs.2 _ _ W (h'.below (Nat.le_refl _) hW).a (h'.below (Nat.le_refl _) hW).b)
  have HSP := Lib.hid (fun v1 v2 W (hW : HasS W v1 v2 P Q) => sKind_any P Q v1 v2 x W hW)
  have HIM := Lib.hid (fun v1 v2 W (hW : HasS W v1 v2 P Q) => iKind_any P Q v1 v2 x h1 h2 W hW)
  have HMK : Hid (∀ v1 v2 W, Has W v1 (ssv P) → HasP W v2 Q → HasS W v1 v2 P Q) := Lib.hid (fun v1 v2 W h1 h2 => ⟨h1, h2, h'.short, h'.in64⟩)
  obtain ⟨R, hR⟩ : ∃ R : Int, R = kindI P Q x := ⟨_, rfl⟩
  rw [← hR] at HSP HIM
  clear hR
  clear h h'
  go_enter Try.func4, Try.ntmps4
  go_wp2_with fail
  refine (HSZ.out _ ((Below.refl _ _).alloc (Nat.le_refl _) _)).mono ?_
  rintro e w1 ⟨r, rfl, hr, hr1, hr2, hb1⟩
  have hbw1 : Below w.heap.size w w1 := ((Below.refl _ _).alloc (Nat.le_refl _) _).trans (hb1.mono (by simp))
  have c0 : w1.cell? ⟨w.heap.size, 0, none⟩ = some (.slice A P.length ca) := by rw [hb1.cell (p := ⟨w.heap.size, 0, none⟩) (by simp)]; simp
  have c1 : w1.cell? ⟨w.heap.size, 1, none⟩ = some (.slice B Q.length cb) := by rw [hb1.cell (p := ⟨w.heap.size, 1, none⟩) (by simp)]; simp
  have hs1 : w.heap.size < w1.heap.size := by have := hb1.size; simp at this; omega
  clear hb1
  by_cases hneg : r < 0
  · go_wp2
    go_ret
    exact ⟨rfl, hbw1⟩
  have HSM := Lib.hid (hr (by omega))
  clear hr
  go_wp2_with fail
  refine (HTO.out _ hbw1 HSM.out).mono ?_
  rintro e w2 ⟨v1, v2, rfl, ha, hb, hb2⟩
  have HS2 := Lib.hid (HMK.out _ _ _ ha hb)
  have d0 : w2.cell? ⟨w.heap.size, 0, none⟩ = some (.slice A P.length ca) := (hb2.cell (by exact hs1)).trans c0
  have d1 : w2.cell? ⟨w.heap.size, 1, none⟩ = some (.slice B Q.length cb) := (hb2.cell (by exact hs1)).trans c1
  have hbw2 := hbw1.trans (hb2.mono hbw1.size)
  have hs2 : w.heap.size < w2.heap.size := Nat.lt_of_lt_of_le hs1 hb2.size
  clear ha hb hb2 c0 c1
  go_wp2_with fail
  refine (HSP.out _ _ _ HS2.out).mono ?_
  rintro e w3 ⟨rfl, hb3⟩
  have e0 : w3.cell? ⟨w.heap.size, 0, none⟩ = some (.slice A P.length ca) := (hb3.cell (by exact hs2)).trans d0
  have e1 : w3.cell? ⟨w.heap.size, 1, none⟩ = some (.slice B Q.length cb) := (hb3.cell (by exact hs2)).trans d1
  have hbw3 := hbw2.trans (hb3.mono hbw2.size)
  have hs3 : w.heap.size < w3.heap.size := Nat.lt_of_lt_of_le hs2 hb3.size
  clear hb3 d0 d1 HS2
  go_wp2_with fail
  refine (HTO.out _ hbw3 HSM.out).mono ?_
  rintro e w4 ⟨v3, v4, rfl, ha, hb, hb4⟩
  obtain ⟨A3, c3, B3, c4, rfl, rfl, _, _, hS4⟩ := (HMK.out _ _ _ ha hb).shape
  have HS4 := Lib.hid hS4
  have f0 : w4.cell? ⟨w.heap.size, 0, none⟩ = some (.slice A P.length ca) := (hb4.cell (by exact hs3)).trans e0
  have f1 : w4.cell? ⟨w.heap.size, 1, none⟩ = some (.slice B Q.length cb) := (hb4.cell (by exact hs3)).trans e1
  have hbw4 := hbw3.trans (hb4.mono hbw3.size)
  have hs4 : w.heap.size < w4.heap.size := Nat.lt_of_lt_of_le hs3 hb4.size
  clear ha hb hb4 e0 e1 hS4
  go_wp2_with fail
  refine (HIM.out _ _ _ (HS4.out.below (Nat.le_refl _) ((Below.refl _ _).alloc (Nat.le_refl _) _))).mono ?_
  rintro e w5 ⟨rfl, hb5⟩
  have hb45 : Below w4.heap.size w4 w5 := ((Below.refl _ _).alloc (Nat.le_refl _) _).trans (hb5.mono (by simp))
  have g0 : w5.cell? ⟨w.heap.size, 0, none⟩ = some (.slice A P.length ca) := (hb45.cell (by exact hs4)).trans f0
  have g1 : w5.cell? ⟨w.heap.size, 1, none⟩ = some (.slice B Q.length cb) := (hb45.cell (by exact hs4)).trans f1
  have k0 : w5.cell? ⟨w4.heap.size, 0, none⟩ = some (.slice A3 P.length c3) := by rw [hb5.cell (p := ⟨w4.heap.size, 0, none⟩) (by simp)]; simp
  have k1 : w5.cell? ⟨w4.heap.size, 1, none⟩ = some (.slice B3 Q.length c4) := by rw [hb5.cell (p := ⟨w4.heap.size, 1, none⟩) (by simp)]; simp
  have hbw5 := hbw4.trans (hb45.mono hbw4.size)
  have hs5 : w.heap.size < w5.heap.size := Nat.lt_of_lt_of_le hs4 hb45.size
  have hs45 : w4.heap.size < w5.heap.size := by have := hb5.size; simp at this; omega
  have HS5 := Lib.hid (HS4.out.below (Nat.le_refl _) hb45)
  clear hb5 hb45 f0 f1 HS4
  go_wp2_with fail
  go_region_held3 (fun w' => (w'.cell? ⟨w4.heap.size, 0, none⟩ = some (.slice A3 P.length c3) ∧ w'.cell? ⟨w4.heap.size, 1, none⟩ = some (.slice B3 Q.length c4) ∧ w'.cell? ⟨w.heap.size, 0, none⟩ = some (.slice A P.length ca) ∧ w'.cell? ⟨w.heap.size, 1, none⟩ = some (.slice B Q.length cb)) ∧ Below w5.heap.size w5 w')
    (first | (refine ⟨⟨?_, ?_, ?_, ?_⟩, (Below.refl _ _).drew⟩ <;> assumption) | (go_split_ands; exact keep_four (p := ⟨w4.heap.size, 0, none⟩) (q := ⟨w4.heap.size, 1, none⟩) (r := ⟨w.heap.size, 0, none⟩) (s := ⟨w.heap.size, 1, none⟩) ⟨⟨by assumption, by assumption, by assumption, by assumption⟩, by assumption⟩ ⟨hs45, hs45, hs5, hs5⟩ (by assumption)))
    (first
      | (go_at_call 20; go_split_ands; refine (HTO.out _ (hbw5.trans (Below.mono (by assumption) hbw5.size)) HSM.out).mono ?_; rintro e w6 ⟨v5, v6, rfl, ha6, hb6, hb6'⟩)
      | (go_at_call 21; go_split_ands; refine (eqSorts_same P Q _ _ _ _ _ (HS5.out.below (Nat.le_refl _) (by assumption)).a (HS5.out.below (Nat.le_refl _) (by assumption)).b ha6 hb6).mono ?_; rintro e w7 ⟨rfl, hb7⟩))
  go_wp2
  have hh : (w7.cell? ⟨w4.heap.size, 0, none⟩ = some (.slice A3 P.length c3) ∧ w7.cell? ⟨w4.heap.size, 1, none⟩ = some (.slice B3 Q.length c4) ∧ w7.cell? ⟨w.heap.size, 0, none⟩ = some (.slice A P.length ca) ∧ w7.cell? ⟨w.heap.size, 1, none⟩ = some (.slice B Q.length cb)) ∧ Below w5.heap.size w5 w7 := by assumption
  go_ret
  exact ⟨rfl, hbw5.trans (hh.2.mono hbw5.size)⟩
theorem walk {H : Type} {enc : TypeId × Value → H} {W : World} {base : Nat} {v : Value} {d : DataW H} {p : List MemPlace}
    (hval : Value.okWide Try.prog W .any base 35 v) (hd : DataW.Trod enc Try.prog W 0 (fun _ => true) true 35 v d p) (_hlt : ∀ x ∈ p, x.block < W.heap.size) (x : Int) (hx : (Lit.int .i64 x).wf = true) :
    Calls Try.prog 4 #[v, .int .i64 x] W fun e w' => e = .returned (.bool true) ∧ Below W.heap.size W w' := by
  obtain ⟨va, vb, P, Q, rfl, h⟩ := sorto.has_sorts hval hd
  exact go P Q va vb x (sorto.i64_bounds hx).1 (sorto.i64_bounds hx).2 W h
end Go.Proofs.Yteaccmneblhoaaa.fnExactKindOfSort
