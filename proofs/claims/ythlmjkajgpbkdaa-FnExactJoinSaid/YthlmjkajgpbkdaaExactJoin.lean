/-
  THE WALK OF FnExactJoin.
-/
import Derived.Test.YthlmjkajgpbkdaaJoin
import Derived.SliceStrings
import Derived.OpenShut
namespace Go.Proofs.Ythlmjkajgpbkdaa.fnExactJoin
open Go.ChangeShapes Go.WideShapes Go.ChangeAt Go.RowKit
open dec mem split strl join

/-- a []string that came in -/
theorem has_strings {H : Type} {enc : TypeId × Value → H} {W : World} {base : Nat} {v : Value} {d : DataW H} {p : List MemPlace}
    (hval : Value.okWide Try.prog W .any base 30 v) (hd : DataW.Trod enc Try.prog W 0 (fun _ => true) true 30 v d p) :
    ∃ P : List (List UInt8), Has W v (ssv P) ∧ ∀ k, k < P.length → (P.getD k []).length ≤ maxLen := by
  obtain ⟨a0, len, cap, rfl⟩ := okWide_slice Try.underlying30 hval
  obtain ⟨fuel, hf⟩ := hd
  rcases open_strings Try.underlying30 Try.underlying9 (by kernel_rfl) hf with ⟨hcs, hx⟩ | ⟨a, len', cap', ss, hcs, _, hl, hm, hz, hx, hcell, hsz⟩
  · simp [Value.cells] at hcs
    obtain ⟨rfl, rfl, rfl⟩ := hcs
    exact ⟨[], ⟨none, 0, rfl, Nat.le_refl _, by unfold maxLen; omega, fun j u hu => by simp [ssv] at hu⟩, fun k hk => by simp at hk⟩
  · simp [Value.cells] at hcs
    obtain ⟨rfl, rfl, rfl⟩ := hcs
    simp only [if_true] at hz
    have hlen : ((ss.take len).map (·.data.toList)).length = len := by simp; omega
    refine ⟨(ss.take len).map (·.data.toList), ⟨some a, cap, by rw [ssv_len, hlen], by rw [ssv_len, hlen]; exact hl, hm, fun j u hu => ?_⟩, fun k hk => ?_⟩
    · have hj : j < len := by have := (List.getElem?_eq_some_iff.1 hu).1; rw [ssv_len, hlen] at this; exact this
      have hc0 := hcell 0 (by omega)
      have hcj := hcell j (by omega)
      obtain ⟨b, o, sp⟩ := a
      have hsp : sp = none := by simpa [Addr.add] using World.cell?_spot hc0
      subst hsp
      have hu' : u = .string (ss.getD j ByteArray.empty) := by
        simp only [ssv, List.map_map, List.getElem?_map, List.getElem?_take, if_pos hj, List.getElem?_eq_getElem (show j < ss.length by omega)] at hu
        simp only [Option.map_some, Option.some.injEq, Function.comp] at hu
        rw [← hu, bstr_data]
        simp [List.getD, List.getElem?_eq_getElem (show j < ss.length by omega)]
      subst hu'
      refine ⟨b, o, rfl, World.block_lt_of_cell? W _ hc0, ?_⟩
      rw [Addr.add_lit] at hcj
      exact hcj
    · rw [hlen] at hk
      have h1 : k < ss.length := by omega
      have : ((ss.take len).map (·.data.toList)).getD k [] = ss[k].data.toList := by
        simp [List.getD, hk, List.getElem?_eq_getElem h1]
      rw [this]
      exact hsz _ (List.getElem_mem h1)

theorem walk {H : Type} {enc : TypeId × Value → H} {W : World} {base : Nat} {v : Value} {d : DataW H} {p : List MemPlace}
    (hval : Value.okWide Try.prog W .any base 30 v) (hd : DataW.Trod enc Try.prog W 0 (fun _ => true) true 30 v d p) (_hlt : ∀ x ∈ p, x.block < W.heap.size) (s : ByteArray) (hs : s.size ≤ maxLen) :
    Calls Try.prog 8 #[v, .string s] W fun e w' => e = .returned (.bool true) ∧ Below W.heap.size W w' := by
  obtain ⟨P, hP, hPl⟩ := has_strings hval hd
  clear hval hd
  rw [← bstr_data s] at hs ⊢
  obtain ⟨c, hc⟩ : ∃ l, l = s.data.toList := ⟨_, rfl⟩
  rw [← hc] at hs ⊢
  clear hc s
  have hsz := bstr_size c
  have hl : c.length ≤ maxLen := by rw [← hsz]; exact hs
  unfold maxLen at hs hl
  have HP := Lib.hid hP
  have HPL := Lib.hid hPl
  clear hP hPl
  by_cases hbig : 1048576 < c.length
  · go_enter Try.func8, Try.ntmps8
    go_wp2
    go_ret
    exact ⟨rfl, Below.refl _ _⟩
  · go_enter Try.func8, Try.ntmps8
    go_wp2_with fail
    refine (sz_any P HPL.out v _ HP.out).mono ?_; rintro e w1 ⟨r, rfl, hr, hr0, hr1, hb1⟩
    have HR := Lib.hid hr
    clear hr
    by_cases hneg : r < 0
    · go_wp2
      go_ret
      exact ⟨rfl, hb1⟩
    · have hS := HR.out (by omega)
      have HS := Lib.hid hS
      have hS1 := hS.1
      clear hS HR
      have HP1 := Lib.hid (HP.out.below (Nat.le_refl _) hb1)
      go_wp2_with fail
      refine (to_any P hS1 v _ HP1.out).mono ?_; rintro e w2 ⟨v2, rfl, hown2, hb2⟩
      have HH2 := Lib.hid (Has.of_own hown2)
      clear hown2
      go_wp2_with fail
      refine (join.spec_any c (by omega) P HS.out v2 _ HH2.out).mono ?_; rintro e w3 ⟨rfl, hb3⟩
      have hb13 := hb2.trans (hb3.mono hb2.size)
      clear hb2 hb3 HH2
      have HP3 := Lib.hid (HP1.out.below (Nat.le_refl _) hb13)
      go_wp2_with fail
      refine (to_any P hS1 v _ HP3.out).mono ?_; rintro e w4 ⟨v4, rfl, hown4, hb4⟩
      have HH4 := Lib.hid (Has.of_own hown4)
      have hb14 := hb13.trans (hb4.mono hb13.size)
      clear hown4 hb4 hb13
      go_wp2_with fail
      refine (join.impl_any c (by omega) P HS.out v4 _ HH4.out).mono ?_; rintro e w5 ⟨rfl, hb5⟩
      have HH5 := Lib.hid (HH4.out.below (Nat.le_refl _) hb5)
      have hb15 := hb14.trans (hb5.mono hb14.size)
      have HP5 := Lib.hid (HP1.out.below (Nat.le_refl _) hb15)
      clear HH4 hb5 hb14
      go_wp2_with fail
      refine (to_any P hS1 v _ HP5.out).mono ?_; rintro e w6 ⟨v6, rfl, hown6, hb6⟩
      have HH6 := Lib.hid (Has.of_own hown6)
      have HH46 := Lib.hid (HH5.out.below (Nat.le_refl _) hb6)
      have hb16 := hb15.trans (hb6.mono hb15.size)
      clear hown6 HH5 hb6 hb15
      go_wp2_with fail
      refine (eq_any P P v4 v6 _ HH46.out HH6.out).mono ?_; rintro e w7 ⟨rfl, hb7⟩
      have hb17 := hb16.trans (hb7.mono hb16.size)
      have hdec : decide (P = P) = true := by simp
      rw [hdec]
      clear hdec hb7 hb16
      go_wp2
      go_ret
      exact ⟨rfl, hb1.trans (hb17.mono hb1.size)⟩
end Go.Proofs.Ythlmjkajgpbkdaa.fnExactJoin
