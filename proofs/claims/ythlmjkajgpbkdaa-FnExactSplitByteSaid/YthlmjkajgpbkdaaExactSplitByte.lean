/-
  THE WALK OF FnExactSplitByte.
-/
import Derived.Test.YthlmjkajgpbkdaaStrl
namespace Go.Proofs.Ythlmjkajgpbkdaa.fnExactSplitByte
open Go.ChangeShapes Go.WideShapes Go.ChangeAt Go.RowKit
open dec mem split strl

theorem walk (s : ByteArray) (hs : s.size ≤ maxLen) (c : Int) (hc : (Lit.int .u8 c).wf = true) (w : World) :
    Calls Try.prog 7 #[.string s, .int .u8 c] w fun e w' => e = .returned (.bool true) ∧ Below w.heap.size w w' := by
  have hx : 0 ≤ c ∧ c ≤ 255 := by simpa [Lit.wf, IntKind.min, IntKind.max, IntKind.signed, IntKind.bits] using hc
  obtain ⟨b, rfl⟩ : ∃ b : UInt8, c = (b.toNat : Int) := ⟨UInt8.ofNat c.toNat, by simp; omega⟩
  clear hc hx
  rw [← bstr_data s] at hs ⊢
  obtain ⟨l, hl⟩ : ∃ l, l = s.data.toList := ⟨_, rfl⟩
  rw [← hl] at hs ⊢
  clear hl s
  have hsz := bstr_size l
  have hl : l.length ≤ maxLen := by rw [← hsz]; exact hs
  unfold maxLen at hs hl
  by_cases hbig : 1048576 < l.length
  · go_enter Try.func7, Try.ntmps7
    go_wp2
    go_ret
    exact ⟨rfl, Below.refl _ _⟩
  · go_enter Try.func7, Try.ntmps7
    go_wp2_with (go_at_call 20; refine (split.spec_any l (by omega) b _).mono ?_; rintro e w1 ⟨v1, rfl, hown1, hb1⟩)
    have hne : ssv (split b l) ≠ [] := by intro h; exact split_ne b l (by simpa [ssv] using h)
    have hpos : 0 < (split b l).length := by have h := split_ne b l; cases hh : split b l with | nil => exact absurd hh h | cons _ _ => simp
    have hle := split_le b l
    obtain ⟨S, hS⟩ : ∃ S, S = split b l := ⟨_, rfl⟩
    have IM := Lib.hid (fun W => split.impl_any l (by omega) b W)
    rw [← hS] at hown1 hne hpos hle IM
    have hsl := ssv_len S
    clear hS
    have HA1 := Lib.hid (Has.of_own hown1)
    clear hown1
    refine (IM.out _).mono ?_; rintro e w2 ⟨v2, rfl, hown2, hb2⟩
    obtain ⟨g, cap, rfl, hg1, hg2⟩ := own_shape hown2 hne
    have HO2 := Lib.hid hown2
    clear hown2
    go_wp2_with fail
    refine (eq_any S S _ _ _ (Has.of_own HO2.out) (HA1.out.below (Nat.le_refl _) hb2)).mono ?_; rintro e w3 ⟨rfl, hb3⟩
    have hdec : decide (S = S) = true := by simp
    rw [hdec]
    clear hdec
    go_wp2_with fail
    refine (marks_any S.length 1 cap g (by omega) (by omega) _ _ _ (own_below HO2.out hb3)).mono ?_; rintro e w4 ⟨rfl, hown4, hgr4⟩
    have HO4 := Lib.hid hown4
    have hb14 : Below w1.heap.size w1 w4 := (hb2.trans (hb3.mono hb2.size)).trans (below_grown hgr4 hg1 (by have := hb2.size; have := hb3.size; omega))
    clear hown4 hgr4 HO2 hb2 hb3
    go_wp2_with fail
    refine (held_any S.length 1 cap (by omega) (by omega) _ _ (Has.of_own HO4.out)).mono ?_; rintro e w5 ⟨rfl, hb5⟩
    have HO5 := Lib.hid (own_below HO4.out hb5)
    have hb15 := hb14.trans (hb5.mono hb14.size)
    clear HO4 hb14 hb5
    go_wp2_with fail
    refine (IM.out _).mono ?_; rintro e w6 ⟨v6, rfl, hown6, hb6⟩
    have HA6 := Lib.hid (Has.of_own hown6)
    have HO6 := Lib.hid (own_below HO5.out hb6)
    have hb16 := hb15.trans (hb6.mono hb15.size)
    clear hown6 HO5 hb15 hb6
    go_wp2_with fail
    refine (eq_any S S _ _ _ HA6.out (HA1.out.below (Nat.le_refl _) hb16)).mono ?_; rintro e w7 ⟨rfl, hb7⟩
    have hdec : decide (S = S) = true := by simp
    rw [hdec]
    clear hdec
    have HO7 := Lib.hid (own_below HO6.out hb7)
    have hb17 := hb16.trans (hb7.mono hb16.size)
    clear HO6 hb16 hb7 HA6
    go_wp2_with fail
    refine (held_any S.length 1 cap (by omega) (by omega) _ _ (Has.of_own HO7.out)).mono ?_; rintro e w8 ⟨rfl, hb8⟩
    have hb18 := hb17.trans (hb8.mono hb17.size)
    clear HO7 hb17 hb8
    go_wp2
    go_ret
    exact ⟨rfl, hb1.trans (hb18.mono hb1.size)⟩
end Go.Proofs.Ythlmjkajgpbkdaa.fnExactSplitByte
