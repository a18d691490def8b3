/-
  THE WALK OF FnExactSortTerms.
-/
import Derived.Test.YtkkmjaggebjcbaaTermop
import Derived.Test.YtkkmjaggebjcbaaTermst
import Derived.Test.YtkkmjaggebjcbaaTermsi
namespace Go.Proofs.Ytkkmjaggebjcbaa.fnExactSortTerms
open Go.ChangeShapes Go.WideShapes Go.ChangeAt Go.RowKit
open mem rowl trm trmv terml termb termt termu termv termx termst termsi

set_option maxHeartbeats 4000000 in
set_option maxRecDepth 100000 in
theorem go {n : Nat} (L : List TermM) (va : Value) (w : World) (h : HasTs n 0 w va L) :
    Calls Try.prog 4 #[va] w fun e w' => e = .returned (.bool true) ∧ Below w.heap.size w w' := by
  have HSZ := Lib.hid (szTermS_any n L va w 0 h 1048576 (by omega) (by omega))
  have HTO := Lib.hid (fun W (hW : Below w.heap.size w W) (hs : sizes L ≤ 1048576) => toTermS_any n L va W 0 (h.below (Nat.le_refl _) hW) hs)
  have HSP := Lib.hid (fun v1 W lo (hW : HasTs (n + 1) lo W v1 L) (hs : sizes L ≤ 1048576) => ssort_any L v1 W hW hs)
  have HIM := Lib.hid (fun v1 W lo (hW : HasTs (n + 1) lo W v1 L) (hs : sizes L ≤ 1048576) => sortTerms_any L v1 W hW hs)
  have HEL := Lib.hid (fun v1 v2 W lo lo' (h1 : HasTs (n + 1) lo W v1 L) (h2 : HasTs (n + 1) lo' W v2 L) => eqTermS_same (n + 1) L v1 v2 W lo lo' h1 h2)
  have HRS : Hid (sizes (sortM L) = sizes L) := Lib.hid (((sortM_spec L).2.map _).sum_nat)
  unfold SSortP at HSP
  unfold SortTP at HIM
  obtain ⟨R, hR⟩ : ∃ R, R = sortM L := ⟨_, rfl⟩
  rw [← hR] at HSP HIM HRS
  obtain ⟨D, hD⟩ : ∃ D, D = depths L + 1 := ⟨_, rfl⟩
  rw [← hD] at HIM
  have HES := Lib.hid (fun v1 v2 W N lo lo' (h1 : HasTs D lo W v1 R) (h2 : HasTs N lo' W v2 R) => eqS_any R v1 v2 W h1 h2)
  obtain ⟨z, hz⟩ : ∃ z, z = sizes L := ⟨_, rfl⟩
  obtain ⟨kk, hkk⟩ : ∃ m : Nat, m = 1 + 3 * z := ⟨_, rfl⟩
  have HML := Lib.hid (fun v S W lo (hs : z ≤ 1048576) (hO : OT 26 (n + 1) lo W v L S) => (show Calls Try.prog 15 #[v, .int .i64 1] W (fun e w' => e = .returned (.int .i64 (kk : Int)) ∧ Chg S W w') from by rw [hkk, hz]; exact (markTermS_any (n + 1) L v S W lo 1 hO (by omega)).mono (fun e w' h => ⟨h.1, h.2.2⟩)))
  have HMS := Lib.hid (fun v S W lo (hs : z ≤ 1048576) (hO : OT 26 D lo W v R S) => (show Calls Try.prog 15 #[v, .int .i64 1] W (fun e w' => e = .returned (.int .i64 (kk : Int)) ∧ OT 26 D lo w' v (mkL tx R 1) S ∧ Chg S W w') from by rw [hkk, hz, ← HRS.out]; exact markTermS_any D R v S W lo 1 hO (by rw [HRS.out]; omega)))
  have HHT := Lib.hid (fun v W lo (hs : z ≤ 1048576) (hO : HasTs D lo W v (mkL tx R 1)) => (show Calls Try.prog 16 #[v, .int .i64 1] W (fun e w' => e = .returned (.int .i64 (kk : Int)) ∧ Below W.heap.size W w') from by rw [hkk, hz, ← HRS.out]; exact heldTermS_any D R v W lo 1 hO (by rw [HRS.out]; omega)))
  rw [← hz] at HTO HSP HIM
  have HZ : Hid (∀ r : Int, (0 ≤ r → r + sizes L ≤ 1048576) → 0 ≤ r → z ≤ 1048576) := Lib.hid (fun r h1 h2 => by have := h1 h2; omega)
  clear h hR hD hz hkk HRS
  go_enter Try.func4, Try.ntmps4
  go_wp2_with fail
  refine HSZ.out.mono ?_
  rintro e w1 ⟨r, rfl, hr, hr1, hr2, hb1⟩
  by_cases hneg : r < 0
  · go_wp2
    go_ret
    exact ⟨rfl, hb1⟩
  have HSM := Lib.hid (HZ.out r hr (by omega))
  have n1 : decide ((kk : Int) < 0) = false := decide_eq_false (by omega)
  have n2 : ¬ (kk : Int) < 0 := by omega
  have HB1 := Lib.hid hb1
  clear hr hb1 HZ HSZ
  -- the model's answer
  go_wp2_with fail
  refine (HTO.out _ HB1.out HSM.out).mono ?_
  rintro e w2 ⟨v2, S2, rfl, ho2, hb2⟩
  have HB2 := Lib.hid (HB1.out.trans (hb2.mono HB1.out.size))
  have HO2 := Lib.hid ho2
  clear ho2 hb2 HB1
  go_wp2_with fail
  refine (HSP.out _ _ _ HO2.out.has HSM.out).mono ?_
  rintro e w3 ⟨v3, rfl, hh3, hb3⟩
  have HB3 := Lib.hid (HB2.out.trans (hb3.mono HB2.out.size))
  have HH3 := Lib.hid hh3
  clear hh3 hb3 HB2 HO2
  -- the program's
  go_wp2_with fail
  refine (HTO.out _ HB3.out HSM.out).mono ?_
  rintro e w4 ⟨v4, S4, rfl, ho4, hb4⟩
  have HO4 := Lib.hid ho4
  have HL4 : Hid (∀ k ∈ S4, w3.heap.size ≤ k ∧ k < w4.heap.size) := Lib.hid (fun k hk => ho4.lt k hk)
  have HK4 : Hid (Below w3.heap.size w3 w4) := Lib.hid hb4
  clear ho4 hb4
  go_wp2_with fail
  refine (HIM.out _ _ _ HO4.out.has HSM.out).mono ?_
  rintro e w5 ⟨v5, S5, rfl, ho5, hb5⟩
  have HG5 := Lib.hid ho5
  have HL5 : Hid (∀ k ∈ S5, w4.heap.size ≤ k ∧ k < w5.heap.size) := Lib.hid (fun k hk => ho5.lt k hk)
  have HK5 : Hid (Below w3.heap.size w3 w5) := Lib.hid (HK4.out.trans (hb5.mono HK4.out.size))
  have HX5 := Lib.hid (HO4.out.below hb5)
  have HZ4 := Lib.hid HK4.out.size
  clear ho5 hb5 HO4 HK4
  go_wp2_with fail
  refine (HES.out _ _ _ _ _ _ HG5.out.has (HH3.out.below (Nat.le_refl _) HK5.out)).mono ?_
  rintro e w6 ⟨rfl, hb6⟩
  have HK6 : Hid (Below w3.heap.size w3 w6) := Lib.hid (HK5.out.trans (hb6.mono HK5.out.size))
  have HX6 := Lib.hid (HX5.out.below hb6)
  have HG6 := Lib.hid (HG5.out.below hb6)
  clear hb6 HK5 HX5 HG5
  go_wp2_with fail
  refine (HTO.out _ (HB3.out.trans (HK6.out.mono HB3.out.size)) HSM.out).mono ?_
  rintro e w7 ⟨v7, S7, rfl, ho7, hb7⟩
  have HO7 := Lib.hid ho7
  have HK7 : Hid (Below w3.heap.size w3 w7) := Lib.hid (HK6.out.trans (hb7.mono HK6.out.size))
  have HX7 := Lib.hid (HX6.out.below hb7)
  have HG7 := Lib.hid (HG6.out.below hb7)
  clear ho7 hb7 HK6 HX6 HG6
  go_wp2_with fail
  refine (HEL.out _ _ _ _ _ HX7.out.has HO7.out.has).mono ?_
  rintro e w8 ⟨rfl, hb8⟩
  have HK8 : Hid (Below w3.heap.size w3 w8) := Lib.hid (HK7.out.trans (hb8.mono HK7.out.size))
  have HX8 := Lib.hid (HX7.out.below hb8)
  have HG8 := Lib.hid (HG7.out.below hb8)
  clear hb8 HK7 HX7 HG7 HO7
  -- marks in the argument
  go_wp2_with fail
  refine (HML.out _ S4 _ _ HSM.out HX8.out).mono ?_
  rintro e w9 ⟨rfl, hch⟩
  have HG9 := Lib.hid (HG8.out.chg hch (fun k hk hm => by have := HL4.out k hm; have := HL5.out k hk; omega))
  have HK9 : Hid (Below w3.heap.size w3 w9) := Lib.hid (HK8.out.trans (hch.below HK8.out.size (fun k hk => (HL4.out k hk).1)))
  clear hch HK8 HX8 HG8
  go_wp2_with fail
  refine (HES.out _ _ _ _ _ _ HG9.out.has (HH3.out.below (Nat.le_refl _) HK9.out)).mono ?_
  rintro e w10 ⟨rfl, hb10⟩
  have HK10 : Hid (Below w3.heap.size w3 w10) := Lib.hid (HK9.out.trans (hb10.mono HK9.out.size))
  have HG10 := Lib.hid (HG9.out.below hb10)
  clear hb10 HK9 HG9
  -- marks in the answer
  go_wp2_with fail
  refine (HMS.out _ S5 _ _ HSM.out HG10.out).mono ?_
  rintro e w11 ⟨rfl, ho11, hch⟩
  have HG11 := Lib.hid ho11
  have HK11 : Hid (Below w3.heap.size w3 w11) := Lib.hid (HK10.out.trans (hch.below HK10.out.size (fun k hk => by have := HL5.out k hk; have := HZ4.out; omega)))
  clear ho11 hch HK10 HG10
  go_wp2_with fail
  refine (HHT.out _ _ _ HSM.out HG11.out.has).mono ?_
  rintro e w12 ⟨rfl, hb12⟩
  have HK12 : Hid (Below w3.heap.size w3 w12) := Lib.hid (HK11.out.trans (hb12.mono HK11.out.size))
  have HG12 := Lib.hid (HG11.out.below hb12)
  clear hb12 HK11 HG11
  -- once more
  go_wp2_with fail
  refine (HTO.out _ (HB3.out.trans (HK12.out.mono HB3.out.size)) HSM.out).mono ?_
  rintro e w13 ⟨v13, S13, rfl, ho13, hb13⟩
  have HO13 := Lib.hid ho13
  have HK13 : Hid (Below w3.heap.size w3 w13) := Lib.hid (HK12.out.trans (hb13.mono HK12.out.size))
  have HG13 := Lib.hid (HG12.out.below hb13)
  clear ho13 hb13 HK12 HG12
  go_wp2_with fail
  refine (HIM.out _ _ _ HO13.out.has HSM.out).mono ?_
  rintro e w14 ⟨v14, S14, rfl, ho14, hb14⟩
  have HO14 := Lib.hid ho14
  have HK14 : Hid (Below w3.heap.size w3 w14) := Lib.hid (HK13.out.trans (hb14.mono HK13.out.size))
  have HG14 := Lib.hid (HG13.out.below hb14)
  clear ho14 hb14 HK13 HG13 HO13
  go_wp2_with fail
  refine (HES.out _ _ _ _ _ _ HO14.out.has (HH3.out.below (Nat.le_refl _) HK14.out)).mono ?_
  rintro e w15 ⟨rfl, hb15⟩
  have HK15 : Hid (Below w3.heap.size w3 w15) := Lib.hid (HK14.out.trans (hb15.mono HK14.out.size))
  have HG15 := Lib.hid (HG14.out.below hb15)
  clear hb15 HK14 HG14 HO14
  go_wp2_with fail
  refine (HHT.out _ _ _ HSM.out HG15.out.has).mono ?_
  rintro e w16 ⟨rfl, hb16⟩
  have HF : Hid (Below w.heap.size w w16) := Lib.hid (HB3.out.trans ((HK15.out.trans (hb16.mono HK15.out.size)).mono HB3.out.size))
  clear hb16 HK15 HG15
  go_wp2
  go_ret
  exact ⟨rfl, HF.out⟩
set_option maxRecDepth 100000 in
theorem walk {H : Type} {enc : TypeId × Value → H} {W : World} {base : Nat} {v : Value} {d : DataW H} {p : List MemPlace}
    (hval : Value.okWide Try.prog W .any base 33 v) (hd : DataW.Trod enc Try.prog W 0 (fun _ => true) true 33 v d p) (_hlt : ∀ x ∈ p, x.block < W.heap.size) :
    Calls Try.prog 4 #[v] W fun e w' => e = .returned (.bool true) ∧ Below W.heap.size W w' := by
  obtain ⟨n, L, h⟩ := termop.has_terms hval hd
  exact go L v W h
end Go.Proofs.Ytkkmjaggebjcbaa.fnExactSortTerms
