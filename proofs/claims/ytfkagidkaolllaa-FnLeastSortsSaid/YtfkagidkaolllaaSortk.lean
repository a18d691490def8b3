/-
  THE WALK OF FnLeastSorts.
-/
import Derived.Test.YtfkagidkaolllaaSorte
import Derived.Test.YtfkagidkaolllaaSortq
import Derived.Test.YtfkagidkaolllaaLaw
namespace Go.Proofs.Ytfkagidkaolllaa.fnLeastSorts
open Go.ChangeShapes Go.WideShapes Go.ChangeAt Go.RowKit
open mem split strl subs sortn setm sets sortm sortp sorti sortf sortu sorts sortg sortq draw sortd sorte

/-- s lies in its box as it was laid there -/
structure SBox (w1 : World) (va vb : Value) (w' : World) : Prop where
  a : w'.cell? ⟨w1.heap.size, 0, none⟩ = some va
  b : w'.cell? ⟨w1.heap.size, 1, none⟩ = some vb
  bel : Below (w1.alloc (.cells #[va, vb] 30)).heap.size (w1.alloc (.cells #[va, vb] 30)) w'
theorem SBox.keep {w1 w0 w' : World} {va vb : Value} (h : SBox w1 va vb w0) (hb : Below w0.heap.size w0 w') : SBox w1 va vb w' := by
  have hs := h.bel.size
  simp at hs
  exact ⟨(hb.cell (by show w1.heap.size < _; omega)).trans h.a, (hb.cell (by show w1.heap.size < _; omega)).trans h.b, h.bel.trans (hb.mono (by simp; omega))⟩
theorem SBox.drew {w1 w0 : World} {va vb : Value} (h : SBox w1 va vb w0) : SBox w1 va vb w0.drew := ⟨h.a, h.b, h.bel.drew⟩
/-- s in its box, an element of the list, and nothing else turned -/
def Held (w1 : World) (va vb : Value) (wr : World) (g o k : Nat) (W : World) : Prop :=
  (W.cell? ⟨w1.heap.size, 0, none⟩ = some va ∧ W.cell? ⟨w1.heap.size, 1, none⟩ = some vb ∧ W.cell? ⟨g, o, none⟩ = some (.int .i64 (k : Int))) ∧ SBox w1 va vb W ∧ Below wr.heap.size wr W
theorem Held.keep {w1 : World} {va vb : Value} {wr w0 w' : World} {g o k : Nat} (h : (w0.cell? ⟨w1.heap.size, 0, none⟩ = some va ∧ w0.cell? ⟨w1.heap.size, 1, none⟩ = some vb ∧ w0.cell? ⟨g, o, none⟩ = some (.int .i64 (k : Int))) ∧ SBox w1 va vb w0 ∧ Below wr.heap.size wr w0) (hg : g < wr.heap.size) (hb : Below w0.heap.size w0 w') :
    (w'.cell? ⟨w1.heap.size, 0, none⟩ = some va ∧ w'.cell? ⟨w1.heap.size, 1, none⟩ = some vb ∧ w'.cell? ⟨g, o, none⟩ = some (.int .i64 (k : Int))) ∧ SBox w1 va vb w' ∧ Below wr.heap.size wr w' := by
  have hs := h.2.2.size
  have hS := h.2.1.keep hb
  exact ⟨⟨hS.a, hS.b, (hb.cell (by show g < _; omega)).trans h.1.2.2⟩, hS, h.2.2.trans (hb.mono hs)⟩
theorem least_of {P : List (List UInt8)} {Q : List (Int × Int)} (h : okS P Q = true) {S : Nat} (hS : S < 2 ^ P.length) :
    sub (leastI P Q (S : Int)) S = true ∧ sub (mostI P Q (S : Int)) S = true ∧ leastI P Q (S : Int) < 65536 ∧ mostI P Q (S : Int) < 65536 ∧
    ∀ x, S.testBit x = true → x < 16 ∧ belowI P Q (x : Int) < 65536 ∧ aboveI P Q (x : Int) < 65536 ∧ belowI P Q (x : Int) &&& leastI P Q (S : Int) ≠ 0 ∧ aboveI P Q (x : Int) &&& mostI P Q (S : Int) ≠ 0 ∧
      ((leastI P Q (S : Int)).testBit x = true → belowI P Q (x : Int) &&& S = 2 ^ x) ∧ ((mostI P Q (S : Int)).testBit x = true → aboveI P Q (x : Int) &&& S = 2 ^ x) := by
  have O := ord_of h
  obtain ⟨h1, h2, h3, h4, h5, h6⟩ := ok_facts h
  have hl := ordU_lim P Q
  have hL : leastI P Q (S : Int) = leastU (ordU P Q) S := by rw [leastI, h6, inU_nat h2 hS]
  have hM : mostI P Q (S : Int) = mostU (ordU P Q) S := by rw [mostI, h6, inU_nat h2 hS]
  rw [hL, hM]
  refine ⟨least_sub _ _, most_sub _ _, lim16 hl (leastU_lt _ _), lim16 hl (mostU_lt _ _), fun x hx => ?_⟩
  have hxn : x < P.length := by
    have := Nat.ge_two_pow_of_testBit hx
    by_cases hlt : x < P.length
    · exact hlt
    · have := Nat.pow_le_pow_right (n := 2) (by decide) (Nat.le_of_not_lt hlt); omega
  have ha : aboveI P Q (x : Int) = (ordU P Q).getD x 0 := by rw [aboveI, atU_nat]
  have hb : belowI P Q (x : Int) = belowU (ordU P Q) x := by rw [belowI, belowX, if_pos (by rw [h6]; omega)]; rfl
  rw [ha, hb]
  exact ⟨by omega, lim16 hl (belowU_lt _ _), hl.lt x, down_least O (by omega) hx, up_most O (by omega) hx, down_one O, up_one O⟩
theorem least_no {P : List (List UInt8)} {Q : List (Int × Int)} {x : Int} (h : okS P Q = false ∨ subI x ((2 ^ P.length - 1 : Nat) : Int) = false) : leastI P Q x = 0 ∧ mostI P Q x = 0 := by
  cases hok : okS P Q with
  | false => rw [leastI, mostI, ordU_no hok]; exact ⟨rfl, rfl⟩
  | true =>
    rcases h with h | h
    · rw [hok] at h; cases h
    · obtain ⟨h1, h2, h3, h4, h5, h6⟩ := ok_facts hok
      rw [leastI, mostI, h6, inU_no h, leastU_zero, mostU_zero]; exact ⟨rfl, rfl⟩
theorem nats_len2 (L : List Nat) : (nats L).length = L.length := by simp [nats]
theorem wrap_pow {n : Nat} (h : n < 16) : wrap64 ((2 : Int) ^ n) = ((2 ^ n : Nat) : Int) ∧ IntKind.i64.wrap ((2 : Int) ^ n) = ((2 ^ n : Nat) : Int) := by
  have hl := pow_lt h
  have e : (2 : Int) ^ n = ((2 ^ n : Nat) : Int) := by simp
  rw [e]
  obtain ⟨b, hb⟩ : ∃ b, b = 2 ^ n := ⟨_, rfl⟩
  rw [← hb] at hl ⊢
  exact ⟨by unfold wrap64; omega, by rw [IntKind.wrap_i64]; omega⟩
set_option maxHeartbeats 8000000 in
set_option maxRecDepth 20000 in
theorem walk {H : Type} {enc : TypeId × Value → H} {W : World} {base : Nat} {v : Value} {d : DataW H} {p : List MemPlace}
    (hval : Value.okWide Try.prog W .any base 39 v) (hd : DataW.Trod enc Try.prog W 0 (fun _ => true) true 39 v d p) (_hlt : ∀ x ∈ p, x.block < W.heap.size) :
    Calls Try.prog 11 #[v] W fun e w' => e = .returned (.bool true) ∧ Below W.heap.size W w' := by
  obtain ⟨A, n, cap, rfl, hn, hcode⟩ := code_open hval hd
  clear hval hd _hlt
  have HCODE := Lib.hid hcode
  clear hcode
  by_cases hbig : 1048576 < n
  · have CB := Lib.hid (big_any (A := A) (cap := cap) hn W)
    have hd : decide (1048576 < n) = true := by simpa using hbig
    rw [hd] at CB
    clear hd
    go_enter Try.func11, Try.ntmps11
    go_wp2_with fail
    refine CB.out.mono ?_; rintro e w1 ⟨rfl, rfl⟩
    go_wp2
    go_ret
    exact ⟨rfl, Below.refl _ _⟩
  have CB := Lib.hid (big_any (A := A) (cap := cap) hn W)
  have hd : decide (1048576 < n) = false := by simpa using hbig
  rw [hd] at CB
  clear hd
  have HC := Lib.hid (HCODE.out (by omega))
  clear HCODE
  go_enter Try.func11, Try.ntmps11
  go_wp2_with fail
  refine CB.out.mono ?_; rintro e w1 ⟨rfl, rfl⟩
  clear CB
  go_wp2_with fail
  refine (drawLeast_any HC.out _ (Below.refl _ _)).mono ?_; rintro e w1 ⟨va, vb, P, Q, x, rfl, hS, hx64, hx65, hb1⟩
  obtain ⟨A1, c1, B1, c2, rfl, rfl, hla, hlb, hS'⟩ := hS.shape
  have HS := Lib.hid hS'
  have HB1 := Lib.hid hb1
  clear hS hS' hb1 HC hbig hn
  obtain ⟨r, hr⟩ : ∃ r, okS P Q = r := ⟨_, rfl⟩
  have HR := Lib.hid hr
  clear hr
  have HHS : Hid (∀ W', SBox w1 (.slice A1 P.length c1) (.slice B1 Q.length c2) W' → HasS W' (.slice A1 P.length c1) (.slice B1 Q.length c2) P Q) := Lib.hid (fun W' hW' => HS.out.below (Nat.le_refl _) (((Below.refl _ _).alloc (Nat.le_refl _) _).trans (hW'.bel.mono (by simp))))
  have CSS : Hid (∀ W', SBox w1 (.slice A1 P.length c1) (.slice B1 Q.length c2) W' → Calls Try.prog 26 #[.agg #[.slice A1 P.length c1, .slice B1 Q.length c2]] W' fun e w' => e = .returned (.bool r) ∧ SBox w1 (.slice A1 P.length c1) (.slice B1 Q.length c2) w') := Lib.hid (fun W' hW' => (sIsSorts_any P Q _ _ r HR.out _ (HHS.out _ hW')).mono (fun e w' h => ⟨h.1, hW'.keep h.2⟩))
  have CLE : Hid (∀ W', SBox w1 (.slice A1 P.length c1) (.slice B1 Q.length c2) W' → Calls Try.prog 31 #[.agg #[.slice A1 P.length c1, .slice B1 Q.length c2], .int .i64 x] W' fun e w' => e = .returned (.int .i64 ((leastI P Q x : Nat) : Int)) ∧ SBox w1 (.slice A1 P.length c1) (.slice B1 Q.length c2) w') := Lib.hid (fun W' hW' => (iLeast_any P Q _ _ x _ (HHS.out _ hW')).mono (fun e w' h => ⟨h.1, hW'.keep h.2⟩))
  have CMO : Hid (∀ W', SBox w1 (.slice A1 P.length c1) (.slice B1 Q.length c2) W' → Calls Try.prog 23 #[.agg #[.slice A1 P.length c1, .slice B1 Q.length c2], .int .i64 x] W' fun e w' => e = .returned (.int .i64 ((mostI P Q x : Nat) : Int)) ∧ SBox w1 (.slice A1 P.length c1) (.slice B1 Q.length c2) w') := Lib.hid (fun W' hW' => (iMost_any P Q _ _ x _ (HHS.out _ hW')).mono (fun e w' h => ⟨h.1, hW'.keep h.2⟩))
  have CAB : Hid (∀ (z : Int) W', SBox w1 (.slice A1 P.length c1) (.slice B1 Q.length c2) W' → Calls Try.prog 14 #[.agg #[.slice A1 P.length c1, .slice B1 Q.length c2], .int .i64 z] W' fun e w' => e = .returned (.int .i64 ((aboveI P Q z : Nat) : Int)) ∧ Below W'.heap.size W' w' ∧ SBox w1 (.slice A1 P.length c1) (.slice B1 Q.length c2) w') := Lib.hid (fun z W' hW' => (sAbove_any P Q _ _ z _ (HHS.out _ hW')).mono (fun e w' h => ⟨h.1, h.2, hW'.keep h.2⟩))
  have CBE : Hid (∀ (z : Int) W', SBox w1 (.slice A1 P.length c1) (.slice B1 Q.length c2) W' → Calls Try.prog 18 #[.agg #[.slice A1 P.length c1, .slice B1 Q.length c2], .int .i64 z] W' fun e w' => e = .returned (.int .i64 ((belowI P Q z : Nat) : Int)) ∧ Below W'.heap.size W' w' ∧ SBox w1 (.slice A1 P.length c1) (.slice B1 Q.length c2) w') := Lib.hid (fun z W' hW' => (sBelow_any P Q _ _ z _ (HHS.out _ hW')).mono (fun e w' h => ⟨h.1, h.2, hW'.keep h.2⟩))
  have hend : Hid (∀ W', SBox w1 (.slice A1 P.length c1) (.slice B1 Q.length c2) W' → Below W.heap.size W W') := Lib.hid (fun W' hW' => HB1.out.trans ((((Below.refl _ _).alloc (Nat.le_refl _) _).trans (hW'.bel.mono (by simp))).mono HB1.out.size))
  have hS1 : Hid (SBox w1 (.slice A1 P.length c1) (.slice B1 Q.length c2) (w1.alloc (.cells #[.slice A1 P.length c1, .slice B1 Q.length c2] 30))) := Lib.hid ⟨by simp, by simp, Below.refl _ _⟩
  cases r with
  | false =>
    obtain ⟨n1, n2⟩ := least_no (P := P) (Q := Q) (x := x) (.inl HR.out)
    rw [n1] at CLE
    rw [n2] at CMO
    clear n1 n2
    go_wp2_with fail
    refine (CLE.out _ hS1.out).mono ?_; rintro e w2 ⟨rfl, hS2⟩
    have g0 := hS2.a
    have g1 := hS2.b
    go_wp2_with fail
    refine (CMO.out _ hS2).mono ?_; rintro e w3 ⟨rfl, hS3⟩
    clear g0 g1 hS2
    have g0 := hS3.a
    have g1 := hS3.b
    go_wp2_with fail
    refine (CSS.out _ hS3).mono ?_; rintro e w4 ⟨rfl, hS4⟩
    go_wp2
    go_ret
    exact ⟨rfl, hend.out _ hS4⟩
  | true =>
    obtain ⟨p1, p2, p3, p4, p5, p6⟩ := ok_facts HR.out
    obtain ⟨hw1, hw2⟩ := wrap_pow (n := P.length) (by omega)
    have hp8 := pow8 p2
    have hp1 := Nat.two_pow_pos P.length
    have HNO := Lib.hid (fun h => least_no (P := P) (Q := Q) (x := x) (.inr h))
    have HLO := Lib.hid (fun S hS => least_of (S := S) HR.out hS)
    have HYE := Lib.hid (fun h => inU_yes (n := P.length) (x := x) h)
    have HLT := Lib.hid (inU_lt p2 x)
    have hzc : ((2 ^ P.length - 1 : Nat) : Int) = ((2 ^ P.length : Nat) : Int) - 1 := by omega
    rw [hzc] at HNO HYE
    obtain ⟨z, hz⟩ : ∃ z, z = 2 ^ P.length := ⟨_, rfl⟩
    rw [← hz] at hw1 hw2 HNO HYE HLO HLT hp8 hp1
    clear p3 p4 p5 p6 hzc hz
    cases hsub : subI x ((z : Int) - 1) with
    | false =>
      have HSU := Lib.hid hsub
      obtain ⟨n1, n2⟩ := HNO.out hsub
      rw [n1] at CLE
      rw [n2] at CMO
      clear n1 n2 hsub
      go_wp2_with fail
      refine (CLE.out _ hS1.out).mono ?_; rintro e w2 ⟨rfl, hS2⟩
      have g0 := hS2.a
      have g1 := hS2.b
      go_wp2_with fail
      refine (CMO.out _ hS2).mono ?_; rintro e w3 ⟨rfl, hS3⟩
      clear g0 g1 hS2
      have g0 := hS3.a
      have g1 := hS3.b
      go_wp2_with fail
      refine (CSS.out _ hS3).mono ?_; rintro e w4 ⟨rfl, hS4⟩
      clear g0 g1 hS3
      have g0 := hS4.a
      have g1 := hS4.b
      go_wp2_with (go_at_call 34; refine (sSub_any _ _ _ HSU.out _).mono ?_; rintro e w5 ⟨rfl, rfl⟩)
      go_ret
      exact ⟨rfl, hend.out _ hS4⟩
    | true =>
      have HSU := Lib.hid hsub
      obtain ⟨hxs, hx0⟩ := HYE.out hsub
      have hlt0 := HLT.out
      rw [hxs] at hlt0
      obtain ⟨S, rfl⟩ : ∃ S : Nat, x = (S : Int) := ⟨x.toNat, by omega⟩
      rw [Int.toNat_natCast] at hlt0
      obtain ⟨m1, m2, m3, m4, m5⟩ := HLO.out S hlt0
      have hS16 : S < 65536 := by omega
      obtain ⟨L, hL⟩ : ∃ L, L = leastI P Q (S : Int) := ⟨_, rfl⟩
      obtain ⟨M, hM⟩ : ∃ M, M = mostI P Q (S : Int) := ⟨_, rfl⟩
      rw [← hL] at m1 m3 m5 CLE
      rw [← hM] at m2 m4 m5 CMO
      have HM5 := Lib.hid m5
      have HSL : Hid (subI (L : Int) (S : Int) = true) := Lib.hid (by
        have o1 : ok (L : Int) = true := by simp [ok]; omega
        have o2 : ok (S : Int) = true := by simp [ok]; omega
        simp only [subI, o1, o2, Int.toNat_natCast, m1]; rfl)
      have HSM : Hid (subI (M : Int) (S : Int) = true) := Lib.hid (by
        have o1 : ok (M : Int) = true := by simp [ok]; omega
        have o2 : ok (S : Int) = true := by simp [ok]; omega
        simp only [subI, o1, o2, Int.toNat_natCast, m2]; rfl)
      have HLI := Lib.hid (fun W => sList_any (S : Int) W)
      rw [listOf_ok hS16] at HLI
      have HE : Hid (∀ i, i < (els S).length → S.testBit ((els S).getD i 0) = true) := Lib.hid (fun i hi => by
        have hm : (els S).getD i 0 ∈ els S := by
          simp only [List.getD, List.getElem?_eq_getElem hi, Option.getD_some]; exact List.getElem_mem hi
        exact (mem_els.1 hm).2)
      have hE16 := elsTo_len S 16
      rw [show elsTo S 16 = els S from rfl] at hE16
      have hnl := nats_len2 (els S)
      obtain ⟨E, hE⟩ : ∃ E, E = els S := ⟨_, rfl⟩
      rw [← hE] at HLI HE hE16 hnl
      rw [hnl] at HLI
      clear hsub hxs hx0 hlt0 m1 m2 m5 hL hM hE hx64 hx65
      go_wp2_with fail
      refine (CLE.out _ hS1.out).mono ?_; rintro e w2 ⟨rfl, hS2⟩
      have g0 := hS2.a
      have g1 := hS2.b
      go_wp2_with fail
      refine (CMO.out _ hS2).mono ?_; rintro e w3 ⟨rfl, hS3⟩
      clear g0 g1 hS2
      have g0 := hS3.a
      have g1 := hS3.b
      go_wp2_with fail
      refine (CSS.out _ hS3).mono ?_; rintro e w4 ⟨rfl, hS4⟩
      clear g0 g1 hS3
      have g0 := hS4.a
      have g1 := hS4.b
      go_wp2_with (first
        | (go_at_call 34; refine (sSub_any _ _ _ HSU.out _).mono ?_; rintro e w5 ⟨rfl, rfl⟩)
        | (go_at_call 35; refine (HLI.out _).mono ?_; rintro e w5 ⟨ev, rfl, hown, hb5⟩
           obtain ⟨A5, c5, rfl, hh⟩ := (Has.of_own hown).shape (n := E.length) (by rw [ivs_len, hnl])
           have HH := Lib.hid hh
           have hS5 := hS4.keep hb5
           clear hown hh hb5 g0 g1))
      go_loopw [8] (fun i wr => ∃ j : Nat, j ≤ E.length ∧ i = .int .i64 j ∧ SBox w1 (.slice A1 P.length c1) (.slice B1 Q.length c2) wr ∧ Below w5.heap.size w5 wr) (fun i _ => E.length - (intOf i).toNat)
      case atStart => exact ⟨0, Nat.zero_le _, rfl, hS5, Below.refl _ _⟩
      case round =>
        obtain ⟨j, hj, rfl, hSr, hbel⟩ := hrel
        by_cases hlt : j < E.length
        · obtain ⟨g, o, rfl, hg, hcell⟩ := HH.out.cellAt hlt
          rw [ivs_get _ j (by rw [hnl]; exact hlt), nats_get, ← hbel.cell (p := ⟨g, o + j, none⟩) hg] at hcell
          have hgr : g < wr.heap.size := Nat.lt_of_lt_of_le hg hbel.size
          obtain ⟨k, hk⟩ : ∃ k, k = E.getD j 0 := ⟨_, rfl⟩
          have hb := HE.out j hlt
          rw [← hk] at hcell hb
          obtain ⟨k16, d1, d2, d3, d4, d5, d6⟩ := HM5.out k hb
          have KBE := Lib.hid (CBE.out (k : Int))
          have KAB := Lib.hid (CAB.out (k : Int))
          obtain ⟨D, hD⟩ : ∃ D, D = belowI P Q (k : Int) := ⟨_, rfl⟩
          obtain ⟨U, hU⟩ : ∃ U, U = aboveI P Q (k : Int) := ⟨_, rfl⟩
          rw [← hD] at d1 d3 d5 KBE
          rw [← hU] at d2 d4 d6 KAB
          have a1 := and_i64 D L d1 m3
          have a2 := and_i64 U M d2 m4
          have a3 := and_i64 D S d1 hS16
          have a4 := and_i64 U S d2 hS16
          have n1 : (((D &&& L : Nat) : Int) == 0) = false := by simp only [beq_eq_false_iff_ne]; omega
          have n2 : (((U &&& M : Nat) : Int) == 0) = false := by simp only [beq_eq_false_iff_ne]; omega
          obtain ⟨DL, hDL⟩ : ∃ x, x = D &&& L := ⟨_, rfl⟩
          obtain ⟨UM, hUM⟩ : ∃ x, x = U &&& M := ⟨_, rfl⟩
          obtain ⟨DS, hDS⟩ : ∃ x, x = D &&& S := ⟨_, rfl⟩
          obtain ⟨US, hUS⟩ : ∃ x, x = U &&& S := ⟨_, rfl⟩
          rw [← hDL] at a1 n1
          rw [← hUM] at a2 n2
          rw [← hDS] at a3 d5
          rw [← hUS] at a4 d6
          obtain ⟨v1, v2⟩ := wrap_pow k16
          obtain ⟨y, hy⟩ : ∃ y, y = 2 ^ k := ⟨_, rfl⟩
          rw [← hy] at v1 v2 d5 d6
          have HIL := Lib.hid (hasI_nat L k k16)
          have HIM := Lib.hid (hasI_nat M k k16)
          have HD5 := Lib.hid d5
          have HD6 := Lib.hid d6
          have hSd := hSr.drew
          have g0 := hSr.a
          have g1 := hSr.b
          clear hk hb hD hU hDL hUM hDS hUS hy d1 d2 d3 d4 d5 d6
          go_wp2
          go_region_held3 (fun W' => (W'.cell? ⟨w1.heap.size, 0, none⟩ = some (.slice A1 P.length c1) ∧ W'.cell? ⟨w1.heap.size, 1, none⟩ = some (.slice B1 Q.length c2) ∧ W'.cell? ⟨g, o + j, none⟩ = some (.int .i64 (k : Int))) ∧ SBox w1 (.slice A1 P.length c1) (.slice B1 Q.length c2) W' ∧ Below wr.heap.size wr W')
            (first | exact ⟨⟨g0, g1, hcell⟩, hSd, (Below.refl _ _).drew⟩ | (go_split_ands; exact Held.keep ⟨⟨by assumption, by assumption, by assumption⟩, by assumption, by assumption⟩ hgr (by assumption)))
            ((go_at_call 18; refine (KBE.out _ (by go_split_ands; assumption)).mono ?_; rintro e w6 ⟨rfl, hb6, _⟩))
          have h6 : (World.cell? w6 ⟨w1.heap.size, 0, none⟩ = some (.slice A1 P.length c1) ∧ World.cell? w6 ⟨w1.heap.size, 1, none⟩ = some (.slice B1 Q.length c2) ∧ World.cell? w6 ⟨g, o + j, none⟩ = some (.int .i64 (k : Int))) ∧ SBox w1 (.slice A1 P.length c1) (.slice B1 Q.length c2) w6 ∧ Below wr.heap.size wr w6 := by assumption
          obtain ⟨⟨i0, i1, hc6⟩, hS6, hbx6⟩ := h6
          have hg6 := Nat.lt_of_lt_of_le hgr hbx6.size
          have hS6d := hS6.drew
          clear g0 g1 hcell hSd hSr hb6
          go_wp2
          go_region_held3 (fun W' => (W'.cell? ⟨w1.heap.size, 0, none⟩ = some (.slice A1 P.length c1) ∧ W'.cell? ⟨w1.heap.size, 1, none⟩ = some (.slice B1 Q.length c2) ∧ W'.cell? ⟨g, o + j, none⟩ = some (.int .i64 (k : Int))) ∧ SBox w1 (.slice A1 P.length c1) (.slice B1 Q.length c2) W' ∧ Below w6.heap.size w6 W')
            (first | exact ⟨⟨i0, i1, hc6⟩, hS6d, (Below.refl _ _).drew⟩ | (go_split_ands; exact Held.keep ⟨⟨by assumption, by assumption, by assumption⟩, by assumption, by assumption⟩ hg6 (by assumption)))
            ((go_at_call 14; refine (KAB.out _ (by go_split_ands; assumption)).mono ?_; rintro e w7 ⟨rfl, hb7, _⟩))
          have h7 : (World.cell? w7 ⟨w1.heap.size, 0, none⟩ = some (.slice A1 P.length c1) ∧ World.cell? w7 ⟨w1.heap.size, 1, none⟩ = some (.slice B1 Q.length c2) ∧ World.cell? w7 ⟨g, o + j, none⟩ = some (.int .i64 (k : Int))) ∧ SBox w1 (.slice A1 P.length c1) (.slice B1 Q.length c2) w7 ∧ Below w6.heap.size w6 w7 := by assumption
          obtain ⟨⟨_, _, hc7⟩, hS7, hbx7⟩ := h7
          have hbel7 : Below w5.heap.size w5 w7 := hbel.trans ((hbx6.trans (hbx7.mono hbx6.size)).mono hbel.size)
          clear hb7 hbx6 hbx7 hS6 hS6d i0 i1 hc6 hbel
          cases hbL : L.testBit k with
          | false =>
            have M1 : Hid (hasI (L : Int) (k : Int) = false) := Lib.hid (HIL.out.trans hbL)
            clear hbL
            cases hbM : M.testBit k with
            | false =>
              have M2 : Hid (hasI (M : Int) (k : Int) = false) := Lib.hid (HIM.out.trans hbM)
              clear hbM
              go_wp2_with fail
              refine (member_any _ _ _ M1.out _).mono ?_; rintro e w8 ⟨rfl, rfl⟩
              go_wp2_with fail
              refine (member_any _ _ _ M2.out _).mono ?_; rintro e w8 ⟨rfl, rfl⟩
              go_wp2
              go_roundw
              case rel => exact ⟨j + 1, by omega, by go_num, hS7, hbel7⟩
              case measure => simp [intOf]; omega
            | true =>
              have M2 : Hid (hasI (M : Int) (k : Int) = true) := Lib.hid (HIM.out.trans hbM)
              obtain rfl := HD6.out hbM
              clear hbM
              go_wp2_with fail
              refine (member_any _ _ _ M1.out _).mono ?_; rintro e w8 ⟨rfl, rfl⟩
              go_wp2_with fail
              refine (member_any _ _ _ M2.out _).mono ?_; rintro e w8 ⟨rfl, rfl⟩
              go_wp2
              go_roundw
              case rel => exact ⟨j + 1, by omega, by go_num, hS7, hbel7⟩
              case measure => simp [intOf]; omega
          | true =>
            have M1 : Hid (hasI (L : Int) (k : Int) = true) := Lib.hid (HIL.out.trans hbL)
            obtain rfl := HD5.out hbL
            clear hbL
            cases hbM : M.testBit k with
            | false =>
              have M2 : Hid (hasI (M : Int) (k : Int) = false) := Lib.hid (HIM.out.trans hbM)
              clear hbM
              go_wp2_with fail
              refine (member_any _ _ _ M1.out _).mono ?_; rintro e w8 ⟨rfl, rfl⟩
              go_wp2_with fail
              refine (member_any _ _ _ M2.out _).mono ?_; rintro e w8 ⟨rfl, rfl⟩
              go_wp2
              go_roundw
              case rel => exact ⟨j + 1, by omega, by go_num, hS7, hbel7⟩
              case measure => simp [intOf]; omega
            | true =>
              have M2 : Hid (hasI (M : Int) (k : Int) = true) := Lib.hid (HIM.out.trans hbM)
              obtain rfl := HD6.out hbM
              clear hbM
              go_wp2_with fail
              refine (member_any _ _ _ M1.out _).mono ?_; rintro e w8 ⟨rfl, rfl⟩
              go_wp2_with fail
              refine (member_any _ _ _ M2.out _).mono ?_; rintro e w8 ⟨rfl, rfl⟩
              go_wp2
              go_roundw
              case rel => exact ⟨j + 1, by omega, by go_num, hS7, hbel7⟩
              case measure => simp [intOf]; omega
        · obtain rfl : j = E.length := by omega
          go_wp2_with fail
          refine (iSub_any _ _ _ HSL.out _).mono ?_; rintro e w6 ⟨rfl, rfl⟩
          go_wp2_with fail
          refine (iSub_any _ _ _ HSM.out _).mono ?_; rintro e w6 ⟨rfl, rfl⟩
          go_wp2
          go_ret
          exact ⟨rfl, hend.out _ hSr⟩
end Go.Proofs.Ytfkagidkaolllaa.fnLeastSorts
