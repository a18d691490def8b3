/-
  THE WALKS OF FnExactSetOf AND FnExactListOf.
-/
import Derived.Test.YtpgdcmapheioiaaIntl
namespace Go.Proofs.Ytpgdcmapheioiaa.fnExactSetOf
open Go.ChangeShapes Go.WideShapes Go.ChangeAt Go.RowKit
open mem setm sets intl

theorem walk {H : Type} {enc : TypeId × Value → H} {W : World} {base : Nat} {v : Value} {d : DataW H} {p : List MemPlace}
    (hval : Value.okWide Try.prog W .any base 26 v) (hd : DataW.Trod enc Try.prog W 0 (fun _ => true) true 26 v d p) (_hlt : ∀ x ∈ p, x.block < W.heap.size) :
    Calls Try.prog 4 #[v] W fun e w' => e = .returned (.bool true) ∧ Below W.heap.size W w' := by
  obtain ⟨L, hL, _⟩ := has_ints hval hd
  clear hval hd _hlt
  obtain ⟨A, c, rfl, h⟩ := hL.shape (ivs_len L)
  have hla := h.len.2
  have HH := Lib.hid h
  clear h hL
  by_cases hbig : 1048576 < L.length
  · go_enter Try.func4, Try.ntmps4
    go_wp2
    go_ret
    exact ⟨rfl, Below.refl _ _⟩
  · go_enter Try.func4, Try.ntmps4
    go_wp2_with fail
    refine (to_any L (by omega) _ _ HH.out).mono ?_; rintro e w1 ⟨v1, rfl, hown1, hb1⟩
    have HA1 := Lib.hid (Has.of_own hown1)
    clear hown1
    go_wp2_with fail
    refine (sSet_any L _ _ HA1.out).mono ?_; rintro e w1 ⟨rfl, rfl⟩
    go_wp2_with fail
    refine (to_any L (by omega) _ _ (HH.out.below (Nat.le_refl _) hb1)).mono ?_; rintro e w2 ⟨v2, rfl, hown2, hb2⟩
    have HA2 := Lib.hid (Has.of_own hown2)
    have hb12 := hb1.trans (hb2.mono hb1.size)
    clear hown2 HA1 hb1 hb2
    go_wp2_with fail
    refine (iSet_any L _ _ HA2.out).mono ?_; rintro e w2 ⟨rfl, rfl⟩
    obtain ⟨S, hS⟩ : ∃ S, S = setOf L := ⟨_, rfl⟩
    obtain ⟨O, hO⟩ : ∃ O, O = okL L := ⟨_, rfl⟩
    rw [← hS, ← hO]
    clear hS hO
    go_wp2_with fail
    refine (to_any L (by omega) _ _ (HH.out.below (Nat.le_refl _) hb12)).mono ?_; rintro e w3 ⟨v3, rfl, hown3, hb3⟩
    have HA3 := Lib.hid (Has.of_own hown3)
    have HA23 := Lib.hid (HA2.out.below (Nat.le_refl _) hb3)
    have hb13 := hb12.trans (hb3.mono hb12.size)
    clear hown3 HA2 hb12 hb3
    go_wp2_with fail
    refine (eq_same L _ _ _ HA23.out HA3.out).mono ?_; rintro e w4 ⟨rfl, hb4⟩
    have hb14 := hb13.trans (hb4.mono hb13.size)
    clear hb13 hb4
    go_wp2
    go_ret
    exact ⟨rfl, hb14⟩
end Go.Proofs.Ytpgdcmapheioiaa.fnExactSetOf
namespace Go.Proofs.Ytpgdcmapheioiaa.fnExactListOf
open Go.ChangeShapes Go.WideShapes Go.ChangeAt Go.RowKit
open mem setm sets intl

theorem walk (n : Int) (_hn : (Lit.int .i64 n).wf = true) (w : World) :
    Calls Try.prog 5 #[.int .i64 n] w fun e w' => e = .returned (.bool true) ∧ Below w.heap.size w w' := by
  clear _hn
  have IM := Lib.hid (fun W => iList_any n W)
  have SM := Lib.hid (fun W => sList_any n W)
  have hle := listOf_len n
  obtain ⟨S, hS⟩ : ∃ S, S = listOf n := ⟨_, rfl⟩
  rw [← hS] at IM SM hle
  clear hS
  have hsl := ivs_len S
  go_enter Try.func5, Try.ntmps5
  go_wp2_with fail
  refine (SM.out _).mono ?_; rintro e w1 ⟨v1, rfl, hown1, hb1⟩
  have HA1 := Lib.hid (Has.of_own hown1)
  clear hown1
  go_wp2_with fail
  refine (IM.out _).mono ?_; rintro e w2 ⟨v2, rfl, hown2, hb2⟩
  have HA2 := Lib.hid (Has.of_own hown2)
  have HA12 := Lib.hid (HA1.out.below (Nat.le_refl _) hb2)
  by_cases h0 : S = []
  · subst h0
    obtain ⟨A, cap, rfl, hA⟩ := HA2.out.shape (n := 0) rfl
    clear hown2 HA2
    go_wp2_with fail
    refine (eq_same [] _ _ _ hA HA12.out).mono ?_; rintro e w3 ⟨rfl, hb3⟩
    have HA3 := Lib.hid (hA.below (Nat.le_refl _) hb3)
    have HA13 := Lib.hid (HA12.out.below (Nat.le_refl _) hb3)
    have hb13 := hb2.trans (hb3.mono hb2.size)
    clear hA HA12 hb3 hb2
    go_wp2_with fail
    refine (marks_none 1 cap A _).mono ?_; rintro e w3 ⟨rfl, rfl⟩
    go_wp2_with fail
    refine (held_any 0 1 cap (by omega) (by omega) _ _ (by simpa [imarks, ivs] using HA3.out)).mono ?_; rintro e w3 ⟨rfl, rfl⟩
    go_wp2_with fail
    refine (IM.out _).mono ?_; rintro e w4 ⟨v4, rfl, hown4, hb4⟩
    have HA4 := Lib.hid (Has.of_own hown4)
    have HA14 := Lib.hid (HA13.out.below (Nat.le_refl _) hb4)
    have HA34 := Lib.hid (HA3.out.below (Nat.le_refl _) hb4)
    have hb14 := hb13.trans (hb4.mono hb13.size)
    clear hown4 HA3 HA13 hb13 hb4
    go_wp2_with fail
    refine (eq_same [] _ _ _ HA4.out HA14.out).mono ?_; rintro e w5 ⟨rfl, hb5⟩
    have HA35 := Lib.hid (HA34.out.below (Nat.le_refl _) hb5)
    have hb15 := hb14.trans (hb5.mono hb14.size)
    clear HA34 HA14 HA4 hb14 hb5
    go_wp2_with fail
    refine (held_any 0 1 cap (by omega) (by omega) _ _ (by simpa [imarks, ivs] using HA35.out)).mono ?_; rintro e w6 ⟨rfl, rfl⟩
    go_wp2
    go_ret
    exact ⟨rfl, hb1.trans (hb15.mono hb1.size)⟩
  · have hpos : 0 < S.length := by cases S with | nil => exact absurd rfl h0 | cons _ _ => simp
    obtain ⟨g, cap, rfl, hg1, hg2⟩ := own_shape hown2 (by intro h; exact h0 (by simpa [ivs] using h))
    have HO2 := Lib.hid hown2
    clear hown2 h0
    go_wp2_with fail
    refine (eq_same S _ _ _ HA2.out HA12.out).mono ?_; rintro e w3 ⟨rfl, hb3⟩
    have HO3 := Lib.hid (own_below HO2.out hb3)
    have hb13 := hb2.trans (hb3.mono hb2.size)
    have hsz3 := hb3.size
    clear HA2 HA12 HO2 hb3
    go_wp2_with fail
    refine (marks_any S.length 1 cap g (by omega) (by omega) _ _ _ HO3.out).mono ?_; rintro e w4 ⟨rfl, hown4, hgr4⟩
    have HO4 := Lib.hid hown4
    have HA4 := Lib.hid (Has.of_own hown4)
    have hb14 : Below w1.heap.size w1 w4 := hb13.trans (below_grown hgr4 hg1 hb13.size)
    clear hown4 hgr4 HO3 hb13 hb2 hsz3
    go_wp2_with fail
    refine (held_any S.length 1 cap (by omega) (by omega) _ _ HA4.out).mono ?_; rintro e w5 ⟨rfl, rfl⟩
    go_wp2_with fail
    refine (IM.out _).mono ?_; rintro e w6 ⟨v6, rfl, hown6, hb6⟩
    have HA6 := Lib.hid (Has.of_own hown6)
    have HO6 := Lib.hid (own_below HO4.out hb6)
    have hb16 := hb14.trans (hb6.mono hb14.size)
    have HA16 := Lib.hid (HA1.out.below (Nat.le_refl _) hb16)
    clear hown6 HO4 HA4 hb14 hb6
    go_wp2_with fail
    refine (eq_same S _ _ _ HA6.out HA16.out).mono ?_; rintro e w7 ⟨rfl, hb7⟩
    have HO7 := Lib.hid (own_below HO6.out hb7)
    have hb17 := hb16.trans (hb7.mono hb16.size)
    clear HO6 HA6 HA16 hb16 hb7
    go_wp2_with fail
    refine (held_any S.length 1 cap (by omega) (by omega) _ _ (Has.of_own HO7.out)).mono ?_; rintro e w8 ⟨rfl, rfl⟩
    clear HO7
    go_wp2
    go_ret
    exact ⟨rfl, hb1.trans (hb17.mono hb1.size)⟩
end Go.Proofs.Ytpgdcmapheioiaa.fnExactListOf
