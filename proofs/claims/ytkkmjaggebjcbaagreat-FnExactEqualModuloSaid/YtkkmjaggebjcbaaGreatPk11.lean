/-
  Sorts, Sortg, Sigl, Tsm, Tsi, Sigu, merged.
-/
import Derived.Test.YtkkmjaggebjcbaaGreatPk04
/-
 THE MODEL's FUNCTIONS OF SORTS: IsSorts, AboveSort, BelowSort, KindOfSort, LeastSorts, GreatestSorts, CommonSorts.
-/
namespace Go.Proofs.YtkkmjaggebjcbaaGreat.sorts
open Go.ChangeShapes Go.WideShapes Go.ChangeAt Go.RowKit
open mem split strl subs sortn setm sets sortm sortp sorti sortf sortu

theorem in_range (x : Int) (n : Nat) (_hn : 1 ≤ n) : inI x 0 ((n : Int) - 1) = decide (0 ≤ x ∧ x < n) := by
 rw [inI, decide_eq_decide]; omega
theorem okS_names {P : List (List UInt8)} {Q : List (Int × Int)} (h : namesOk P = false) : okS P Q = false := by rw [okS, h]; rfl
theorem okS_subs {P : List (List UInt8)} {Q : List (Int × Int)} (h : subsOk P.length Q = false) : okS P Q = false := by rw [okS, h]; simp
set_option maxHeartbeats 4000000 in
/-- spec.IsSorts -/
theorem sIsSorts_any (P : List (List UInt8)) (Q : List (Int × Int)) (va vb : Value) (r : Bool) (hr : okS P Q = r) (w : World) (h : HasS w va vb P Q) :
  Calls Tryz.prog 65 #[.agg #[va, vb]] w fun e w' => e = .returned (.bool r) ∧ Below w.heap.size w w' := by
 obtain ⟨A, ca, B, cb, rfl, rfl, hla, hlb, h'⟩ := h.shape
 have HH := Lib.hid h'
 have HR := Lib.hid hr
 have hcap : P.length ≤ ca := by obtain ⟨A', c', e, h1, h2, _⟩ := h'.a; simp only [Value.slice.injEq] at e; rw [e.2.2, ← ssv_len P]; exact h1
 clear h h' hr
 by_cases hlo : P.length < 1
 ·have HQ : Hid (r = false) := Lib.hid (by rw [← HR.out]; exact okS_names (by simp [namesOk]; omega))
  go_enter Tryz.func65, Tryz.ntmps65
  go_wp2
  go_ret
  exact ⟨ret_bool HQ.out.symm, (Below.refl _ _).alloc (Nat.le_refl _) _⟩
 by_cases hhi : 8 < P.length
 ·have HQ : Hid (r = false) := Lib.hid (by rw [← HR.out]; exact okS_names (by simp [namesOk]; omega))
  go_enter Tryz.func65, Tryz.ntmps65
  go_wp2
  go_ret
  exact ⟨ret_bool HQ.out.symm, (Below.refl _ _).alloc (Nat.le_refl _) _⟩
 have hd1 : decide ((P.length : Int) < 1) = false := by simp; omega
 have hd2 : decide ((8 : Int) < (P.length : Int)) = false := by simp; omega
 by_cases hq : 16 < Q.length
 ·have HQ : Hid (r = false) := Lib.hid (by rw [← HR.out]; exact okS_subs (by simp [subsOk]; omega))
  go_enter Tryz.func65, Tryz.ntmps65
  go_wp2
  go_ret
  exact ⟨ret_bool HQ.out.symm, (Below.refl _ _).alloc (Nat.le_refl _) _⟩
 have hd3 : decide ((16 : Int) < (Q.length : Int)) = false := by simp; omega
 obtain ⟨n, hn⟩ : ∃ n, n = P.length := ⟨_, rfl⟩
 obtain ⟨m, hm⟩ : ∃ m, m = Q.length := ⟨_, rfl⟩
 rw [← hn] at HH hla hcap hlo hhi hd1 hd2 ⊢
 rw [← hm] at HH hlb hq hd3 ⊢
 have HNM := Lib.hid (fun h => okS_names (P := P) (Q := Q) h)
 have HNS := Lib.hid (fun h => okS_subs (P := P) (Q := Q) h)
 have HN := Lib.hid hn
 have HM := Lib.hid hm
 clear hn hm
 go_enter Tryz.func65, Tryz.ntmps65
 go_wp2
 go_loopw [3] (fun i wr => ∃ k : Nat, k ≤ n ∧ i = .int .i64 k ∧ Hid (namesTo P k = true) ∧ Below (w.heap.size + 1) (w.alloc (.cells #[.slice A n ca, .slice B m cb] 39)) wr) (fun i _ => n - (intOf i).toNat)
 case atStart => exact ⟨0, Nat.zero_le _, rfl, Lib.hid rfl, Below.refl _ _⟩
 case round =>
  obtain ⟨k, hk, rfl, HX, hbel⟩ := hrel
  have c0 : wr.cell? ⟨w.heap.size, 0, none⟩ = some (.slice A n ca) := by rw [hbel.cell (p := ⟨w.heap.size, 0, none⟩) (by simp)]; simp
  have hbw : Below w.heap.size w wr := ((Below.refl _ _).alloc (Nat.le_refl _) _).trans (hbel.mono (by omega))
  by_cases hlt : k < n
  ·have hHS := HH.out.below (Nat.le_refl _) hbw
   obtain ⟨g, o, rfl, hg, hcell⟩ := hHS.a.cellAt hlt
   rw [ssv_get P k (by have := HN.out; omega)] at hcell
   have HT := Lib.hid (has_take hHS.a (k := k) (by omega))
   rw [ssv_take] at HT
   have HS := Lib.hid (namesTo_succ P k)
   have HB := Lib.hid (namesTo_bad P k P.length (by have := HN.out; omega))
   have HP2 := Lib.hid (hHS.short k (by have := HN.out; omega))
   obtain ⟨x, hx⟩ : ∃ x, x = P.getD k [] := ⟨_, rfl⟩
   rw [← hx] at hcell HS HB HP2
   have HC := Lib.hid (fun r hr q => l1Has_any (P.take k) x (.slice (some ⟨g, o, none⟩) k ca) r hr (wr.drewN q) (HT.out.below (Nat.le_refl _) (below_drewN (Below.refl _ _) q)))
   have HBEL := Lib.hid hbel
   have HBW := Lib.hid hbw
   clear hx hHS hbel hbw
   cases hnm : nameOk x with
   | false =>
    have HQ : Hid (r = false) := Lib.hid (by rw [← HR.out]; exact HNM.out (by rw [namesOk, HB.out (.inl hnm)]; simp))
    have HNA := Lib.hid (fun W => sName_any x HP2.out false hnm W)
    clear hnm
    go_wp2
    go_quiet ((go_at_call 66; exact (HNA.out _).mono (fun _ _ h => ⟨h.1, _, h.2.symm⟩)))
    go_wp2
    go_ret
    exact ⟨ret_bool HQ.out.symm, below_drewN HBW.out _⟩
   | true =>
    have HNA := Lib.hid (fun W => sName_any x HP2.out true hnm W)
    by_cases hmm : x ∈ P.take k
    ·have HQ : Hid (r = false) := Lib.hid (by rw [← HR.out]; exact HNM.out (by rw [namesOk, HB.out (.inr hmm)]; simp))
     have HC2 := Lib.hid (HC.out true (by simpa using hmm))
     clear hnm hmm
     go_wp2
     go_quiet (first | (go_at_call 66; exact (HNA.out _).mono (fun _ _ h => ⟨h.1, _, h.2.symm⟩)) | (go_at_call 112; exact (HC2.out _).mono (fun _ _ h => ⟨h.1, _, h.2.symm⟩)))
     go_wp2
     go_ret
     exact ⟨ret_bool HQ.out.symm, below_drewN HBW.out _⟩
    ·have HX2 : Hid (namesTo P (k + 1) = true) := Lib.hid (by rw [HS.out, HX.out, hnm]; simpa using hmm)
     have HC2 := Lib.hid (HC.out false (by simpa using hmm))
     clear hnm hmm
     go_wp2
     go_quiet (first | (go_at_call 66; exact (HNA.out _).mono (fun _ _ h => ⟨h.1, _, h.2.symm⟩)) | (go_at_call 112; exact (HC2.out _).mono (fun _ _ h => ⟨h.1, _, h.2.symm⟩)))
     go_wp2
     go_roundw
     case rel => exact ⟨k + 1, by omega, by go_num, HX2, below_drewN HBEL.out _⟩
     case measure => simp [intOf]; omega
  ·obtain rfl : k = n := by omega
   have HNAMES : Hid (namesOk P = true) := Lib.hid (by
    have h1 := HX.out
    rw [HN.out] at h1
    have h2 := HN.out
    rw [namesOk, h1]; simp; omega)
   have HBEL := Lib.hid hbel
   clear hbw hbel
   go_wp2
   clear c0
   go_loopw [4] (fun i wr => ∃ j : Nat, j ≤ m ∧ i = .int .i64 j ∧ Hid (subsTo k Q j = true) ∧ Below (w.heap.size + 1) (w.alloc (.cells #[.slice A k ca, .slice B m cb] 39)) wr) (fun i _ => m - (intOf i).toNat)
   case atStart => exact ⟨0, Nat.zero_le _, rfl, Lib.hid rfl, HBEL.out⟩
   case round =>
    obtain ⟨j, hj, rfl, HX2, hbel⟩ := hrel
    have c0 : wr.cell? ⟨w.heap.size, 0, none⟩ = some (.slice A k ca) := by rw [hbel.cell (p := ⟨w.heap.size, 0, none⟩) (by simp)]; simp
    have c1 : wr.cell? ⟨w.heap.size, 1, none⟩ = some (.slice B m cb) := by rw [hbel.cell (p := ⟨w.heap.size, 1, none⟩) (by simp)]; simp
    have hbw : Below w.heap.size w wr := ((Below.refl _ _).alloc (Nat.le_refl _) _).trans (hbel.mono (by omega))
    by_cases hlt : j < m
    ·have hHS := HH.out.below (Nat.le_refl _) hbw
     obtain ⟨g, o, rfl, hg, hcell, hcell2⟩ := hHS.b.cellAt hlt
     have hin := hHS.in64.get j
     have HBAD : Hid (subOk k (Q.getD j (0, 0)) = false → r = false) := Lib.hid (by
      intro h; rw [← HR.out]
      refine HNS.out ?_
      rw [subsOk, ← HN.out, subs_bad k Q j (by have := HM.out; omega) h]; simp)
     have HG : Hid (subOk k (Q.getD j (0, 0)) = true → subsTo k Q (j + 1) = true) := Lib.hid (by intro h; rw [subsTo_succ k Q j (by have := HM.out; omega), HX2.out, h]; rfl)
     have HS : Hid (subOk k (Q.getD j (0, 0)) = (decide (0 ≤ (Q.getD j (0, 0)).1 ∧ (Q.getD j (0, 0)).1 < k) && decide (0 ≤ (Q.getD j (0, 0)).2 ∧ (Q.getD j (0, 0)).2 < k) && decide ((Q.getD j (0, 0)).1 ≠ (Q.getD j (0, 0)).2))) := Lib.hid rfl
     obtain ⟨s, hs⟩ : ∃ s, s = subOk k (Q.getD j (0, 0)) := ⟨_, rfl⟩
     rw [← hs] at HBAD HG HS
     obtain ⟨x, hx⟩ : ∃ x, x = (Q.getD j (0, 0)).1 := ⟨_, rfl⟩
     obtain ⟨y, hy⟩ : ∃ y, y = (Q.getD j (0, 0)).2 := ⟨_, rfl⟩
     rw [← hx, ← hy] at hin HS
     rw [← hx] at hcell
     rw [← hy] at hcell2
     have HBEL2 := Lib.hid hbel
     have HBW := Lib.hid hbw
     clear hs hx hy hHS hbel hbw
     have HIX := Lib.hid (in_range x k (by omega))
     have HIY := Lib.hid (in_range y k (by omega))
     cases h1 : inI x 0 ((k : Int) - 1) with
     | false =>
      have HI := Lib.hid h1
      have HQ : Hid (r = false) := Lib.hid (HBAD.out (by rw [HS.out, ← HIX.out, h1]; rfl))
      clear h1
      go_wp2
      go_quiet ((go_at_call 32; exact (l1In_any _ _ _ _ HI.out _).mono (fun _ _ h => ⟨h.1, _, h.2.symm⟩)))
      go_wp2
      go_ret
      exact ⟨ret_bool HQ.out.symm, below_drewN HBW.out _⟩
     | true =>
      have HI := Lib.hid h1
      cases h2 : inI y 0 ((k : Int) - 1) with
      | false =>
       have HI2 := Lib.hid h2
       have HQ : Hid (r = false) := Lib.hid (HBAD.out (by rw [HS.out, ← HIX.out, ← HIY.out, h1, h2]; rfl))
       clear h1 h2
       go_wp2
       go_quiet ((go_at_call 32; exact (l1In_any _ _ _ _ (by first | exact HI.out | exact HI2.out) _).mono (fun _ _ h => ⟨h.1, _, h.2.symm⟩)))
       go_wp2
       go_ret
       exact ⟨ret_bool HQ.out.symm, below_drewN HBW.out _⟩
      | true =>
       have HI2 := Lib.hid h2
       by_cases h3 : x = y
       ·have HQ : Hid (r = false) := Lib.hid (HBAD.out (by rw [HS.out, ← HIX.out, ← HIY.out, h1, h2, h3]; simp))
        have he : (x == y) = true := by simpa using h3
        clear h1 h2 h3
        go_wp2
        go_quiet ((go_at_call 32; exact (l1In_any _ _ _ _ (by first | exact HI.out | exact HI2.out) _).mono (fun _ _ h => ⟨h.1, _, h.2.symm⟩)))
        go_wp2
        go_ret
        exact ⟨ret_bool HQ.out.symm, below_drewN HBW.out _⟩
       ·have HX3 : Hid (subsTo k Q (j + 1) = true) := Lib.hid (HG.out (by rw [HS.out, ← HIX.out, ← HIY.out, h1, h2]; simpa using h3))
        have he : (x == y) = false := by simpa using h3
        clear h1 h2 h3
        go_wp2
        go_quiet ((go_at_call 32; exact (l1In_any _ _ _ _ (by first | exact HI.out | exact HI2.out) _).mono (fun _ _ h => ⟨h.1, _, h.2.symm⟩)))
        go_wp2
        go_roundw
        case rel => exact ⟨j + 1, by omega, by go_num, HX3, below_drewN HBEL2.out _⟩
        case measure => simp [intOf]; omega
    ·obtain rfl : j = m := by omega
     have HSUBS : Hid (subsOk k Q = true) := Lib.hid (by
      have h1 := HX2.out
      have h2 := HM.out
      rw [subsTo, List.take_of_length_le (by omega)] at h1
      rw [subsOk, h1]; simp; omega)
     obtain ⟨hpin, hq16⟩ := subsOk_pin HSUBS.out
     have hpin2 : PIn P.length Q := by rw [← HN.out]; exact hpin
     have HUP := Lib.hid (l3Up_any P Q (by have := HN.out; omega) (by have := HN.out; omega) (by omega) hpin2 _ _ wr (HH.out.below (Nat.le_refl _) hbw))
     rw [← HN.out] at HUP
     have HOKC : Hid (okS P Q = !circ k (clo k (prs Q))) := Lib.hid (by rw [okS, HNAMES.out, ← HN.out, HSUBS.out]; simp)
     have hlt2 := fun i => clo_lt hpin.inR i
     have hcl := clo_len k (prs Q)
     obtain ⟨U, hU⟩ : ∃ U, U = clo k (prs Q) := ⟨_, rfl⟩
     rw [← hU] at HUP HOKC hlt2 hcl
     have hp8 := pow8 (n := k) (by omega)
     have HLT : Hid (∀ i, U.getD i 0 < 65536) := Lib.hid (fun i => by have := hlt2 i; omega)
     have HBW := Lib.hid hbw
     have HCL := Lib.hid hcl
     clear hU hpin hpin2 hq16 hlt2 hbw hbel hcl
     go_wp2_with (go_at_call 113; refine HUP.out.mono ?_; rintro e w1 ⟨uv, rfl, hown, hb1⟩; obtain ⟨gu, cu, rfl, hgu, hgs⟩ := own_shape hown (by intro e; have := hown.1; rw [e] at this; simp at this; omega); have HOWN := Lib.hid hown; clear hown)
     go_loop [6] (fun i => ∃ h : Nat, h ≤ k ∧ i = .int .i64 h ∧ Hid (∀ a b, a < h → b < a → ¬ ((U.getD b 0).testBit a = true ∧ (U.getD a 0).testBit b = true))) (fun i => k - (intOf i).toNat)
     case atStart => exact ⟨0, Nat.zero_le _, rfl, Lib.hid (fun a b h => by omega)⟩
     case round =>
      obtain ⟨h, hh, rfl, HY⟩ := hrel
      by_cases hlt : h < k
      ·obtain ⟨d0, _⟩ := in_cell HOWN.out hlt
       go_wp2
       go_loop [7] (fun i => ∃ l : Nat, l ≤ h ∧ i = .int .i64 l ∧ Hid (∀ b, b < l → ¬ ((U.getD b 0).testBit h = true ∧ (U.getD h 0).testBit b = true))) (fun i => h - (intOf i).toNat)
       case atStart => exact ⟨0, Nat.zero_le _, rfl, Lib.hid (fun b h => by omega)⟩
       case round =>
        obtain ⟨l, hl, rfl, HZ⟩ := hrel
        by_cases hlt2 : l < h
        ·obtain ⟨d1, _⟩ := in_cell HOWN.out (show l < k by omega)
         have HT : Hid ((U.getD h 0).testBit l = true → (U.getD l 0).testBit h = true → r = false) := Lib.hid (fun e2 e1 => by rw [← HR.out, HOKC.out, circ_true hlt hlt2 e1 e2]; rfl)
         have HF : Hid (¬ ((U.getD l 0).testBit h = true ∧ (U.getD h 0).testBit l = true) → ∀ b, b < l + 1 → ¬ ((U.getD b 0).testBit h = true ∧ (U.getD h 0).testBit b = true)) := Lib.hid (fun e b hb => by
          by_cases hbl : b = l
          ·subst hbl; exact e
          ·exact HZ.out b (by omega))
         have HI1 := Lib.hid (hasI_nat (U.getD h 0) l (by omega))
         have HI2 := Lib.hid (hasI_nat (U.getD l 0) h (by omega))
         obtain ⟨s, hs⟩ : ∃ s, s = U.getD l 0 := ⟨_, rfl⟩
         obtain ⟨t, ht⟩ : ∃ t, t = U.getD h 0 := ⟨_, rfl⟩
         rw [← hs] at d1 HI2
         rw [← ht] at d0 HI1
         rw [← hs, ← ht] at HT HF
         have HTT := Lib.hid ht
         clear hs ht
         cases h1 : t.testBit l with
         | false =>
          have HD : Hid (hasI t l = false) := Lib.hid (HI1.out.trans h1)
          have HF2 := Lib.hid (HF.out (by rw [h1]; simp))
          clear h1
          go_wp2_with (go_at_call 102; refine (l2Has_any _ _ _ HD.out _).mono ?_; rintro e w2 ⟨rfl, rfl⟩)
          go_round
          case rel => exact ⟨l + 1, by omega, by go_num, Lib.hid (by have := HF2.out; rw [HTT.out] at this; exact this)⟩
          case measure => simp [intOf]; omega
         | true =>
          have HD : Hid (hasI t l = true) := Lib.hid (HI1.out.trans h1)
          cases h2 : s.testBit h with
          | false =>
           have HD2 : Hid (hasI s h = false) := Lib.hid (HI2.out.trans h2)
           have HF2 := Lib.hid (HF.out (by rw [h2]; simp))
           clear h1 h2
           go_wp2_with (go_at_call 102; refine (l2Has_any _ _ _ (by first | exact HD.out | exact HD2.out) _).mono ?_; rintro e w2 ⟨rfl, rfl⟩)
           go_round
           case rel => exact ⟨l + 1, by omega, by go_num, Lib.hid (by have := HF2.out; rw [HTT.out] at this; exact this)⟩
           case measure => simp [intOf]; omega
          | true =>
           have HD2 : Hid (hasI s h = true) := Lib.hid (HI2.out.trans h2)
           have HQ := Lib.hid (HT.out h1 h2)
           clear h1 h2
           go_wp2_with (go_at_call 102; refine (l2Has_any _ _ _ (by first | exact HD.out | exact HD2.out) _).mono ?_; rintro e w2 ⟨rfl, rfl⟩)
           go_ret
           exact ⟨ret_bool HQ.out.symm, HBW.out.trans (hb1.mono HBW.out.size)⟩
        ·obtain rfl : l = h := by omega
         go_wp2
         go_round
         case rel =>
          refine ⟨l + 1, by omega, by go_num, Lib.hid (fun a b ha hb => ?_)⟩
          by_cases hal : a = l
          ·subst hal; exact HZ.out b hb
          ·exact HY.out a b (by omega) hb
         case measure => simp [intOf]; omega
      ·obtain rfl : h = k := by omega
       have HQ : Hid (r = true) := Lib.hid (by rw [← HR.out, HOKC.out, circ_false (fun a b ha hb => HY.out a b ha hb)]; rfl)
       go_wp2
       go_ret
       exact ⟨ret_bool HQ.out.symm, HBW.out.trans (hb1.mono HBW.out.size)⟩
end Go.Proofs.YtkkmjaggebjcbaaGreat.sorts
/-
 THE MODEL's FUNCTIONS OF SORTS: AboveSort, BelowSort, KindOfSort, LeastSorts, GreatestSorts, CommonSorts.
-/
namespace Go.Proofs.YtkkmjaggebjcbaaGreat.sortg
open Go.ChangeShapes Go.WideShapes Go.ChangeAt Go.RowKit
open mem split strl subs sortn setm sets sortm sortp sorti sortf sortu sorts

theorem ok_ne {P : List (List UInt8)} {Q : List (Int × Int)} (h : okS P Q = true) : ∀ p ∈ Q, p.1 ≠ p.2 := by
 simp only [okS, subsOk, subOk, Bool.and_eq_true, List.all_eq_true, decide_eq_true_eq] at h
 intro p hp
 exact (h.1.2.2 p hp).2
end Go.Proofs.YtkkmjaggebjcbaaGreat.sortg
/-
 THE MODEL's FUNCTIONS OF SIGNATURES: l4Arity, l4Decls.
-/
namespace Go.Proofs.YtkkmjaggebjcbaaGreat.sigl
open Go.ChangeShapes Go.WideShapes Go.ChangeAt Go.RowKit
open mem split strl join subs sortn setm sets sortm sortp sorti sortf sortu sortg rowl sigm sigs sigi sigj

/-- spec.l4Arity -/
theorem l4Arity_any (l : List UInt8) (D : List (List Int × Int)) (hD : 1 ≤ D.length) (v : Value) (a b : Bool) (u : Int) (w : World) {lo : Nat} (h : HasD lo w v D) :
  Calls Tryz.prog 74 #[.agg #[.string (bstr l), v, .bool a, .bool b, .int .i64 u]] w fun e w' => e = .returned (.int .i64 ((hd0 D).1.length : Int)) ∧ Below w.heap.size w w' := by
 obtain ⟨A, c, rfl, h⟩ := HasR.shape h rfl
 obtain ⟨g, o, A2, c2, rfl, _, hg, hc0, hc1, hh, _, _⟩ := decl_at h (j := 0) (by omega)
 have hd : D.getD 0 default = hd0 D := rfl
 rw [hd, show o + 0 * 2 = o by omega] at hc0
 rw [hd] at hh
 have hl := hh.has.len.2
 have hln := h.len.2.1
 obtain ⟨m, hm⟩ : ∃ m, m = (hd0 D).1.length := ⟨_, rfl⟩
 rw [← hm] at hc0 hl ⊢
 obtain ⟨n, hn⟩ : ∃ n, n = D.length := ⟨_, rfl⟩
 rw [← hn] at hD hln ⊢
 clear h hh hd hm hc1 hn
 go_enter Tryz.func74, Tryz.ntmps74
 go_wp2
 go_ret
 exact ⟨rfl, (Below.refl _ _).alloc (Nat.le_refl _) _⟩
theorem kD_point {κ : Int → Nat} {l m : List Int} {x y : Int} : kD κ (l, x) = kD κ (m, y) ↔ l.length = m.length ∧ (∀ q, q < l.length → κ (l.getD q 0) = κ (m.getD q 0)) ∧ κ x = κ y := by
 simp only [kD, Prod.mk.injEq]
 constructor
 ·rintro ⟨h1, h2⟩
  have hl : l.length = m.length := by have := congrArg List.length h1; simpa using this
  refine ⟨hl, fun q hq => ?_, h2⟩
  have h3 : (l.map κ)[q]? = (m.map κ)[q]? := by rw [h1]
  simp only [List.getElem?_map, List.getElem?_eq_getElem hq, List.getElem?_eq_getElem (show q < m.length by omega), Option.map_some, Option.some.injEq] at h3
  simpa [List.getD, List.getElem?_eq_getElem hq, List.getElem?_eq_getElem (show q < m.length by omega)] using h3
 ·rintro ⟨hl, h1, h2⟩
  refine ⟨List.ext_getElem (by simpa using hl) (fun q hq1 hq2 => ?_), h2⟩
  have hq : q < l.length := by simpa using hq1
  have := h1 q hq
  simpa [List.getD, List.getElem?_eq_getElem hq, List.getElem?_eq_getElem (show q < m.length by omega)] using this
theorem inI_inN {n : Nat} {x : Int} : inI x 0 ((n : Int) - 1) = inN n x := by
 simp only [inI, inN, decide_eq_decide]; omega
set_option maxRecDepth 20000 in
set_option maxHeartbeats 8000000 in
/-- spec.l4Decls -/
theorem l4Decls_any (P : List (List UInt8)) (Q : List (Int × Int)) (hok : okS P Q = true) (va vb : Value) (C : Option Addr) (oc cc : Nat) (nm : List UInt8) (D : List (List Int × Int)) (vd : Value) (a b : Bool) (u : Int) (r : Bool) (hr : declsOk P.length (κK P.length Q) D = r) (w : World) {lo : Nat} (hS : HasS w va vb P Q) (hD : HasD lo w vd D) :
  Calls Tryz.prog 67 #[.agg #[va, vb, .slice C oc cc], .agg #[.string (bstr nm), vd, .bool a, .bool b, .int .i64 u]] w fun e w' => e = .returned (.bool r) ∧ Below w.heap.size w w' := by
 obtain ⟨p1, p2, p3, p4, p5⟩ := okS_parts hok
 have HKI := Lib.hid (fun W (hW : Below w.heap.size w W) => l3Kinds_any P Q p1 p2 (by omega) p3 (ok_ne hok) va vb W (hS.below (Nat.le_refl _) hW))
 have hKl : (kin P.length (prs Q)).length = P.length := kin_len _ _
 obtain ⟨n, hn⟩ : ∃ n, n = P.length := ⟨_, rfl⟩
 have HNP := Lib.hid hn
 obtain ⟨A, ca, B, cb, rfl, rfl, hla, hlb, _⟩ := hS.shape
 rw [← hn] at hr HKI hKl p1 p2 p3 ⊢
 obtain ⟨K, hK⟩ : ∃ K, K = kin n (prs Q) := ⟨_, rfl⟩
 have hκ : ∀ x, κK n Q x = K.getD x.toNat 0 := fun x => by rw [κK, hK]
 rw [← hK] at HKI hKl
 obtain ⟨κ, hκd⟩ : ∃ κ, κ = κK n Q := ⟨_, rfl⟩
 rw [← hκd] at hr hκ
 have HKAP := Lib.hid hκ
 clear hS hok p3 p4 p5 hn hK hκd hκ
 obtain ⟨dn, hdn⟩ : ∃ dn, dn = D.length := ⟨_, rfl⟩
 obtain ⟨E, ce, rfl, hD⟩ := HasR.shape hD hdn.symm
 have hdl := hD.len.2.1
 have HN := Lib.hid hdn
 have HR := Lib.hid hr
 clear hdn hr
 by_cases hlo : dn < 1
 ·have HR2 : Hid (r = false) := Lib.hid (by rw [← HR.out, declsOk]; have := HN.out; simp; omega)
  clear hD
  go_enter Tryz.func67, Tryz.ntmps67
  go_wp2
  go_ret
  exact ⟨ret_bool HR2.out.symm, ((Below.refl _ _).alloc (Nat.le_refl _) _).alloc (by simp) _⟩
 by_cases hhi : 4 < dn
 ·have HR2 : Hid (r = false) := Lib.hid (by rw [← HR.out, declsOk]; have := HN.out; simp; omega)
  clear hD
  go_enter Tryz.func67, Tryz.ntmps67
  go_wp2
  go_ret
  exact ⟨ret_bool HR2.out.symm, ((Below.refl _ _).alloc (Nat.le_refl _) _).alloc (by simp) _⟩
 obtain ⟨g, o, A2, c2, rfl, _, hg, hc0, hc1, hh, hi1, hi2⟩ := decl_at hD (j := 0) (by omega)
 have hd : D.getD 0 default = hd0 D := rfl
 rw [hd, show o + 0 * 2 = o by omega] at hc0 hc1
 rw [hd] at hh hi1 hi2
 have hml := hh.has.len.2
 obtain ⟨L0, hL0⟩ : ∃ L, L = (hd0 D).1 := ⟨_, rfl⟩
 obtain ⟨x0, hx0⟩ : ∃ x, x = (hd0 D).2 := ⟨_, rfl⟩
 have HHD : Hid (hd0 D = (L0, x0)) := Lib.hid (by rw [hL0, hx0])
 rw [← hL0] at hc0 hh hml
 rw [← hx0] at hc1
 obtain ⟨m, hm⟩ : ∃ m, m = L0.length := ⟨_, rfl⟩
 rw [← hm] at hc0 hh hml
 have HM := Lib.hid hm
 have HHL := Lib.hid hh.has
 have HHDD := Lib.hid hD
 clear hd hL0 hx0 hh hi1 hi2 hm hD
 by_cases hm3 : 3 < m
 ·have HR2 : Hid (r = false) := Lib.hid (by
   rw [← HR.out]
   refine declsOk_bad (j := 0) (by have := HN.out; omega) (.inl ?_)
   have e : D.getD 0 default = hd0 D := rfl
   rw [e, HHD.out, okD]
   have := HM.out
   simp; omega)
  go_enter Tryz.func67, Tryz.ntmps67
  go_wp2
  go_ret
  exact ⟨ret_bool HR2.out.symm, ((Below.refl _ _).alloc (Nat.le_refl _) _).alloc (by simp) _⟩
 go_enter Tryz.func67, Tryz.ntmps67
 go_wp2_with fail
 refine (HKI.out _ (((Below.refl _ _).alloc (Nat.le_refl _) _).alloc (by simp) _)).mono ?_
 rintro e w1 ⟨kv, rfl, hkv, hb1⟩
 obtain ⟨KA, kc, rfl, hkh⟩ := (Has.of_own hkv).shape (n := n) (by rw [ivs_len, nats_len]; exact hKl)
 have hbw1 : Below w.heap.size w w1 := (((Below.refl _ _).alloc (Nat.le_refl _) _).alloc (by simp) _).trans (hb1.mono (by simp; omega))
 have e1 : w1.cell? ⟨w.heap.size + 1, 1, none⟩ = some (.slice (some ⟨g, o, none⟩) dn ce) := by rw [hb1.cell (p := ⟨w.heap.size + 1, 1, none⟩) (by simp)]; simp
 have hs1 : w.heap.size + 1 < w1.heap.size := by have := hb1.size; simp at this; omega
 have HKH := Lib.hid hkh
 clear hkv hb1 hkh
 rw [← hbw1.cell (p := ⟨g, o, none⟩) hg] at hc0
 rw [← hbw1.cell (p := ⟨g, o + 1, none⟩) hg] at hc1
 go_wp2_with fail
 generalize hW3 : w1.alloc (.cells #[.slice A2 m c2, .int .i64 x0] 123) = W3
 have hb13 : Below w1.heap.size w1 W3 := by rw [← hW3]; exact (Below.refl _ _).alloc (Nat.le_refl _) _
 have hs3 : W3.heap.size = w1.heap.size + 1 := by rw [← hW3]; simp
 have hbw3 : Below w.heap.size w W3 := hbw1.trans (hb13.mono hbw1.size)
 have f0 : W3.cell? ⟨w1.heap.size, 0, none⟩ = some (.slice A2 m c2) := by rw [← hW3]; simp
 have f1 : W3.cell? ⟨w1.heap.size, 1, none⟩ = some (.int .i64 x0) := by rw [← hW3]; simp
 have E1 : W3.cell? ⟨w.heap.size + 1, 1, none⟩ = some (.slice (some ⟨g, o, none⟩) dn ce) := (hb13.cell (by exact hs1)).trans e1
 have HK3 := Lib.hid (HKH.out.below (Nat.le_refl _) hb13)
 have HL3 := Lib.hid (HHL.out.below (Nat.le_refl _) hbw3)
 have HD3 := Lib.hid (HHDD.out.below RD_steady (Nat.le_refl _) hbw3)
 have HBW3 := Lib.hid hbw3
 clear hc0 hc1 e1 hW3 hb13 hbw3 hbw1
 go_loopw [7] (fun i wr => ∃ k : Nat, k ≤ dn ∧ i = .int .i64 k ∧ Hid (∀ j, j < k → okD n (D.getD j default) = true ∧ kD κ (D.getD j default) = kD κ (hd0 D)) ∧ Below W3.heap.size W3 wr) (fun i _ => dn - (intOf i).toNat)
 case atStart => exact ⟨0, Nat.zero_le _, rfl, Lib.hid (fun j hj => by omega), Below.refl _ _⟩
 case round =>
  obtain ⟨k, hk, rfl, HALL, hbel⟩ := hrel
  have hszr := hbel.size
  have hzr : w1.heap.size < wr.heap.size := by omega
  have hzr0 : w.heap.size + 1 < wr.heap.size := by omega
  have E1r : wr.cell? ⟨w.heap.size + 1, 1, none⟩ = some (.slice (some ⟨g, o, none⟩) dn ce) := (hbel.cell (by show w.heap.size + 1 < W3.heap.size; omega)).trans E1
  have f0r : wr.cell? ⟨w1.heap.size, 0, none⟩ = some (.slice A2 m c2) := (hbel.cell (by show w1.heap.size < W3.heap.size; omega)).trans f0
  have f1r : wr.cell? ⟨w1.heap.size, 1, none⟩ = some (.int .i64 x0) := (hbel.cell (by show w1.heap.size < W3.heap.size; omega)).trans f1
  by_cases hlt : k < dn
  ·obtain ⟨g', o', A3, c3, hge, _, hg', hc0, hc1, hh, hi1, hi2⟩ := decl_at HD3.out hlt
   simp only [Option.some.injEq, Addr.mk.injEq, and_true] at hge
   obtain ⟨rfl, rfl⟩ := hge
   rw [← hbel.cell (p := ⟨g, o + k * 2, none⟩) hg'] at hc0
   rw [← hbel.cell (p := ⟨g, o + k * 2 + 1, none⟩) hg'] at hc1
   have HBAD : Hid (okD n (D.getD k default) = false ∨ ¬ kD κ (D.getD k default) = kD κ (hd0 D) → r = false) := Lib.hid (fun hb => by rw [← HR.out]; exact declsOk_bad (by have := HN.out; omega) hb)
   have HGOOD : Hid (okD n (D.getD k default) = true → kD κ (D.getD k default) = kD κ (hd0 D) → ∀ j, j < k + 1 → okD n (D.getD j default) = true ∧ kD κ (D.getD j default) = kD κ (hd0 D)) := Lib.hid (fun h1 h2 j hj => by
    by_cases e : j = k
    ·subst e; exact ⟨h1, h2⟩
    ·exact HALL.out j (by omega))
   have HFST : Hid (k = 0 ∨ okD n (L0, x0) = true) := Lib.hid (by
    by_cases e : k = 0
    ·exact .inl e
    ·have := (HALL.out 0 (by omega)).1
     have e2 : D.getD 0 default = hd0 D := rfl
     rw [e2, HHD.out] at this
     exact .inr this)
   have HEQ0 : Hid (k = 0 → D.getD k default = (L0, x0)) := Lib.hid (fun e => by subst e; rw [← HHD.out]; rfl)
   rw [HHD.out] at HBAD HGOOD
   obtain ⟨⟨l, x⟩, hd⟩ : ∃ d, d = D.getD k default := ⟨_, rfl⟩
   rw [← hd] at hc0 hc1 hh hi1 hi2 HBAD HGOOD HEQ0
   have hli := hh.has.len.2
   obtain ⟨m2, hm2⟩ : ∃ m2, m2 = l.length := ⟨_, rfl⟩
   rw [← hm2] at hc0 hh hli
   have HM2 := Lib.hid hm2
   have HHR := Lib.hid hh.has
   have HI := Lib.hid (And.intro hi1 hi2)
   clear hh hi1 hi2 hd hm2
   by_cases hlen : m2 = m
   ·subst hlen
    have HLI := Lib.hid (fun (y : Int) r hr W => l1In_any y 0 ((n : Int) - 1) r hr W)
    simp only [inI_inN] at HLI
    cases hin : inN n x with
    | false =>
     have HR2 := Lib.hid (HBAD.out (.inl (by simp [okD, hin])))
     have HL1 := Lib.hid (fun W => HLI.out x false hin W)
     clear hin
     go_wp2_with fail
     refine (HL1.out _).mono ?_
     rintro e w2 ⟨rfl, rfl⟩
     go_wp2
     go_ret
     exact ⟨ret_bool HR2.out.symm, (HBW3.out.trans (hbel.mono HBW3.out.size)).alloc (by have := HBW3.out.size; omega) _⟩
    | true =>
     have HL1 := Lib.hid (fun W => HLI.out x true hin W)
     have HINX := Lib.hid hin
     clear hin
     go_wp2_with fail
     refine (HL1.out _).mono ?_
     rintro e w2 ⟨rfl, rfl⟩
     go_wp2_with fail
     generalize hW8 : wr.alloc (.cells #[.slice A3 m2 c3, .int .i64 x] 123) = W8
     have hb38 : Below W3.heap.size W3 W8 := by rw [← hW8]; exact hbel.alloc hszr _
     have hs8 : W8.heap.size = wr.heap.size + 1 := by rw [← hW8]; simp
     have h0 : W8.cell? ⟨wr.heap.size, 0, none⟩ = some (.slice A3 m2 c3) := by rw [← hW8]; simp
     have h1 : W8.cell? ⟨wr.heap.size, 1, none⟩ = some (.int .i64 x) := by rw [← hW8]; simp
     have F0 : W8.cell? ⟨w1.heap.size, 0, none⟩ = some (.slice A2 m2 c2) := (hb38.cell (by show w1.heap.size < W3.heap.size; omega)).trans f0
     have F1 : W8.cell? ⟨w1.heap.size, 1, none⟩ = some (.int .i64 x0) := (hb38.cell (by show w1.heap.size < W3.heap.size; omega)).trans f1
     have HK8 := Lib.hid (HK3.out.below (Nat.le_refl _) hb38)
     have HL8 := Lib.hid (HL3.out.below (Nat.le_refl _) hb38)
     have HR8 := Lib.hid (HHR.out.below (Nat.le_refl _) hb38)
     have HB38 := Lib.hid hb38
     have h8z : W3.heap.size ≤ W8.heap.size := hb38.size
     clear hW8 hb38 E1r f0r f1r hc0 hc1
     obtain ⟨wo, rfl⟩ : ∃ wo, wo = wr := ⟨wr, rfl⟩
     go_loopw [9] (fun i wr => ∃ q : Nat, q ≤ m2 ∧ i = .int .i64 q ∧ Hid (∀ j, j < q → inN n (l.getD j 0) = true ∧ κ (l.getD j 0) = κ (L0.getD j 0)) ∧ Below W8.heap.size W8 wr) (fun i _ => m2 - (intOf i).toNat)
     case atStart => exact ⟨0, Nat.zero_le _, rfl, Lib.hid (fun j hj => by omega), Below.refl _ _⟩
     case round =>
      obtain ⟨q, hq, rfl, HPT, hbq⟩ := hrel
      have h0q : wr.cell? ⟨wo.heap.size, 0, none⟩ = some (.slice A3 m2 c3) := (hbq.cell (by show wo.heap.size < W8.heap.size; omega)).trans h0
      have h1q : wr.cell? ⟨wo.heap.size, 1, none⟩ = some (.int .i64 x) := (hbq.cell (by show wo.heap.size < W8.heap.size; omega)).trans h1
      have F0q : wr.cell? ⟨w1.heap.size, 0, none⟩ = some (.slice A2 m2 c2) := (hbq.cell (by show w1.heap.size < W8.heap.size; omega)).trans F0
      have F1q : wr.cell? ⟨w1.heap.size, 1, none⟩ = some (.int .i64 x0) := (hbq.cell (by show w1.heap.size < W8.heap.size; omega)).trans F1
      have HFIN : Hid (Below w.heap.size w wr) := Lib.hid ((HBW3.out.trans (HB38.out.mono HBW3.out.size)).trans (hbq.mono (by have := HBW3.out.size; omega)))
      by_cases hqt : q < m2
      ·obtain ⟨gl, ol, rfl, hgl, hcl⟩ := HR8.out.cellAt hqt
       obtain ⟨gm, om, rfl, hgm, hcm⟩ := HL8.out.cellAt hqt
       rw [ivs_get l q (by have := HM2.out; omega), ← hbq.cell (p := ⟨gl, ol + q, none⟩) hgl] at hcl
       rw [ivs_get L0 q (by have := HM.out; omega), ← hbq.cell (p := ⟨gm, om + q, none⟩) hgm] at hcm
       have HFZ : Hid (inN n (l.getD q 0) = true → inN n (L0.getD q 0) = true) := Lib.hid (fun hy => by
        by_cases e : k = 0
        ·have e2 := HEQ0.out e
         rw [Prod.mk.injEq] at e2
         rw [← e2.1]; exact hy
        ·have h3 := HFST.out
         rcases h3 with h3 | h3
         ·exact absurd h3 e
         ·exact (okD_parts h3).2.2 q (by have := HM.out; show q < L0.length; omega))
       have HB1 : Hid (inN n (l.getD q 0) = false ∨ ¬ κ (l.getD q 0) = κ (L0.getD q 0) → r = false) := Lib.hid (fun hb => by
        rcases hb with hb | hb
        ·exact HBAD.out (.inl (okD_bad (by have := HM2.out; omega) hb))
        ·exact HBAD.out (.inr (fun e => hb ((kD_point.1 e).2.1 q (by have := HM2.out; omega)))))
       have HPT2 : Hid (inN n (l.getD q 0) = true → κ (l.getD q 0) = κ (L0.getD q 0) → ∀ j, j < q + 1 → inN n (l.getD j 0) = true ∧ κ (l.getD j 0) = κ (L0.getD j 0)) := Lib.hid (fun a1 a2 j hj => by
        by_cases e : j = q
        ·subst e; exact ⟨a1, a2⟩
        ·exact HPT.out j (by omega))
       obtain ⟨y, hy⟩ : ∃ y, y = l.getD q 0 := ⟨_, rfl⟩
       obtain ⟨z, hz⟩ : ∃ z, z = L0.getD q 0 := ⟨_, rfl⟩
       rw [← hy] at hcl HFZ HB1 HPT2
       rw [← hz] at hcm HFZ HB1 HPT2
       clear hy hz
       cases hyn : inN n y with
       | false =>
        have HR2 := Lib.hid (HB1.out (.inl hyn))
        have HL2 := Lib.hid (fun W => HLI.out y false hyn W)
        clear hyn
        go_wp2
        go_quiet ((go_at_call 32; exact (HL2.out _).mono (fun _ _ h => ⟨h.1, _, h.2.symm⟩)))
        go_wp2
        go_ret
        exact ⟨ret_bool HR2.out.symm, by first | exact HFIN.out | exact below_drewN HFIN.out _⟩
       | true =>
        have HL2 := Lib.hid (fun W => HLI.out y true hyn W)
        have hzn := HFZ.out hyn
        have HY := Lib.hid hyn
        have hyn2 : 0 ≤ y ∧ y < n := by simpa [inN] using hyn
        have hzn2 : 0 ≤ z ∧ z < n := by simpa [inN] using hzn
        obtain ⟨yn, rfl⟩ : ∃ yn : Nat, y = (yn : Int) := ⟨y.toNat, by omega⟩
        obtain ⟨zn, rfl⟩ : ∃ zn : Nat, z = (zn : Int) := ⟨z.toNat, by omega⟩
        obtain ⟨gk, ok, rfl, hgk, hky⟩ := HK8.out.cellAt (j := yn) (by omega)
        obtain ⟨gk2, ok2, hge, _, hkz⟩ := HK8.out.cellAt (j := zn) (by omega)
        simp only [Option.some.injEq, Addr.mk.injEq, and_true] at hge
        obtain ⟨rfl, rfl⟩ := hge
        rw [ivs_get _ yn (by rw [nats_len]; omega), nats_get, ← hbq.cell (p := ⟨gk, ok + yn, none⟩) hgk] at hky
        rw [ivs_get _ zn (by rw [nats_len]; omega), nats_get, ← hbq.cell (p := ⟨gk, ok + zn, none⟩) hgk] at hkz
        have HKY : Hid (κ (yn : Int) = K.getD yn 0) := Lib.hid (by rw [HKAP.out]; rfl)
        have HKZ : Hid (κ (zn : Int) = K.getD zn 0) := Lib.hid (by rw [HKAP.out]; rfl)
        obtain ⟨ky, hky'⟩ : ∃ ky, ky = K.getD yn 0 := ⟨_, rfl⟩
        obtain ⟨kz, hkz'⟩ : ∃ kz, kz = K.getD zn 0 := ⟨_, rfl⟩
        rw [← hky'] at hky HKY
        rw [← hkz'] at hkz HKZ
        have hyl : yn < n := by omega
        have hzl : zn < n := by omega
        clear hyn hzn hyn2 hzn2 hky' hkz'
        by_cases he : ky = kz
        ·subst he
         have HP := Lib.hid (HPT2.out HY.out (by rw [HKY.out, HKZ.out]))
         go_wp2
         go_quiet ((go_at_call 32; exact (HL2.out _).mono (fun _ _ h => ⟨h.1, _, h.2.symm⟩)))
         go_wp2
         go_roundw
         case rel => exact ⟨q + 1, by omega, by go_num, HP, by first | exact hbq | exact below_drewN hbq _⟩
         case measure => simp [intOf]; omega
        ·have hne : ((ky : Int) != (kz : Int)) = true := by simp; omega
         have HR2 := Lib.hid (HB1.out (.inr (by rw [HKY.out, HKZ.out]; exact he)))
         clear he
         go_wp2
         go_quiet ((go_at_call 32; exact (HL2.out _).mono (fun _ _ h => ⟨h.1, _, h.2.symm⟩)))
         go_wp2
         go_ret
         exact ⟨ret_bool HR2.out.symm, by first | exact HFIN.out | exact below_drewN HFIN.out _⟩
      ·obtain rfl : q = m2 := by omega
       have hx0 : inN n x0 = true := by
        by_cases e : k = 0
        ·have e2 := HEQ0.out e
         rw [Prod.mk.injEq] at e2
         rw [← e2.2]; exact HINX.out
        ·rcases HFST.out with h3 | h3
         ·exact absurd h3 e
         ·exact (okD_parts h3).2.1
       have hx2 : 0 ≤ x ∧ x < n := by simpa [inN] using HINX.out
       have hx02 : 0 ≤ x0 ∧ x0 < n := by simpa [inN] using hx0
       have HOKD : Hid (okD n (l, x) = true) := Lib.hid (okD_good (by have := HM2.out; omega) HINX.out (fun j hj => (HPT.out j (by have := HM2.out; omega)).1))
       have HKK : Hid (κ x = κ x0 → kD κ (l, x) = kD κ (L0, x0)) := Lib.hid (fun e => kD_point.2 ⟨by have := HM2.out; have := HM.out; omega, fun j hj => (HPT.out j (by have := HM2.out; omega)).2, e⟩)
       have HKB : Hid (¬ κ x = κ x0 → r = false) := Lib.hid (fun hb => HBAD.out (.inr (fun e => hb (kD_point.1 e).2.2)))
       obtain ⟨xn, rfl⟩ : ∃ xn : Nat, x = (xn : Int) := ⟨x.toNat, by omega⟩
       obtain ⟨xn0, rfl⟩ : ∃ xn0 : Nat, x0 = (xn0 : Int) := ⟨x0.toNat, by omega⟩
       obtain ⟨gk, ok, rfl, hgk, hky⟩ := HK8.out.cellAt (j := xn) (by omega)
       obtain ⟨gk2, ok2, hge, _, hkz⟩ := HK8.out.cellAt (j := xn0) (by omega)
       simp only [Option.some.injEq, Addr.mk.injEq, and_true] at hge
       obtain ⟨rfl, rfl⟩ := hge
       rw [ivs_get _ xn (by rw [nats_len]; omega), nats_get, ← hbq.cell (p := ⟨gk, ok + xn, none⟩) hgk] at hky
       rw [ivs_get _ xn0 (by rw [nats_len]; omega), nats_get, ← hbq.cell (p := ⟨gk, ok + xn0, none⟩) hgk] at hkz
       have HKY : Hid (κ (xn : Int) = K.getD xn 0) := Lib.hid (by rw [HKAP.out]; rfl)
       have HKZ : Hid (κ (xn0 : Int) = K.getD xn0 0) := Lib.hid (by rw [HKAP.out]; rfl)
       obtain ⟨ky, hky'⟩ : ∃ ky, ky = K.getD xn 0 := ⟨_, rfl⟩
       obtain ⟨kz, hkz'⟩ : ∃ kz, kz = K.getD xn0 0 := ⟨_, rfl⟩
       rw [← hky'] at hky HKY
       rw [← hkz'] at hkz HKZ
       have hyl : xn < n := by omega
       have hzl : xn0 < n := by omega
       clear hx0 hx2 hx02 hky' hkz'
       by_cases he : ky = kz
       ·subst he
        have HG := Lib.hid (HGOOD.out HOKD.out (HKK.out (by rw [HKY.out, HKZ.out])))
        go_wp2
        go_quiet (fail)
        go_wp2
        go_roundw
        case rel => exact ⟨k + 1, by omega, by go_num, (by rw [HHD.out]; exact HG), by first | exact HB38.out.trans (hbq.mono h8z) | exact below_drewN (HB38.out.trans (hbq.mono h8z)) _⟩
        case measure => simp [intOf]; omega
       ·have hne : ((ky : Int) != (kz : Int)) = true := by simp; omega
        have HR2 := Lib.hid (HKB.out (by rw [HKY.out, HKZ.out]; exact he))
        clear he
        go_wp2
        go_quiet (fail)
        go_wp2
        go_ret
        exact ⟨ret_bool HR2.out.symm, by first | exact HFIN.out | exact below_drewN HFIN.out _⟩
   ·have HR2 := Lib.hid (HBAD.out (.inr (fun e => hlen (by have := (kD_point.1 e).1; have := HM.out; have := HM2.out; omega))))
    have hne : ((m2 : Int) != (m : Int)) = true := by simp; omega
    clear hlen
    go_wp2
    go_ret
    exact ⟨ret_bool HR2.out.symm, (HBW3.out.trans (hbel.mono HBW3.out.size)).alloc (by have := HBW3.out.size; omega) _⟩
  ·obtain rfl : k = dn := by omega
   have HR2 : Hid (r = true) := Lib.hid (by rw [← HR.out]; exact declsOk_good (by have := HN.out; omega) (by have := HN.out; omega) (fun j hj => HALL.out j (by have := HN.out; omega)))
   go_wp2
   go_ret
   exact ⟨ret_bool HR2.out.symm, HBW3.out.trans (hbel.mono HBW3.out.size)⟩
end Go.Proofs.YtkkmjaggebjcbaaGreat.sigl
/-
 PLAIN MATHEMATICS OF THE SORTS OF TERMS: what declarations give, closed upwards, over all ways to combine arguments two at a time.
-/
namespace Go.Proofs.YtkkmjaggebjcbaaGreat.tsm
open mem setm sortm sortn sortp sorti sigm

/-! ### sums of sets -/
def orL {α : Type} (f : α → Nat) (L : List α) : Nat := L.foldl (fun s x => s ||| f x) 0
/-! ### closed upwards -/
def upC (U : List Nat) (S : Nat) : Nat := orL (fun k => U.getD k 0) (els S)
/-! ### what the declarations give -/
/-- the first k arguments have the sorts at their places -/
def fitTo (A : List Nat) (d : List Int) (k : Nat) : Bool := (List.range k).all fun i => (A.getD i 0).testBit (d.getD i 0).toNat
def fitD (A : List Nat) (d : List Int) : Bool := fitTo A d d.length
def givF (A : List Nat) (d : List Int × Int) : Nat := if fitD A d.1 then 2 ^ d.2.toNat else 0
def giveR (D : List (List Int × Int)) (A : List Nat) : Nat := orL (givF A) D
/-- declarations over n sorts, each of m arguments -/
def DeclN (n m : Nat) (D : List (List Int × Int)) : Prop := ∀ d ∈ D, d.1.length = m ∧ inN n d.2 = true ∧ ∀ k, k < m → inN n (d.1.getD k 0) = true
theorem DeclN.take {n m : Nat} {D : List (List Int × Int)} (h : DeclN n m D) (k : Nat) : DeclN n m (D.take k) := fun d hd => h d (List.mem_of_mem_take hd)
/-! ### groups of arguments: a group is the set of their places -/
def leftsF (g : Nat) : Nat → Nat → List Nat
 | 0, _ => []
 | f + 1, l => if l = 0 then [] else l :: leftsF g f ((l - 1) &&& g)
/-- the parts of a group, in the order in which they are tried -/
def lefts (g : Nat) : List Nat := leftsF g g ((g - 1) &&& g)
/-- every element of the first is less than the least one of the second -/
def befo (l r : Nat) : Bool := decide (l < r &&& (65536 - r))
/-- the part of a group that is left when l is taken -/
abbrev rest (g l : Nat) : Nat := g ^^^ l
def leftsC (com : Bool) (g : Nat) : List Nat := (lefts g).filter fun l => com || befo l (rest g l)
section
variable (com : Bool) (U : List Nat) (D : List (List Int × Int)) (A : List Nat)
/-- the place of a group of one -/
def oneOf (g : Nat) : Option Nat := (List.range 16).find? fun i => g == 2 ^ i
def valV (t : List Nat) (g : Nat) : Nat :=
 match oneOf g with
 | some i => A.getD i 0
 | none => upC U (orL (fun l => giveR D [t.getD l 0, t.getD (rest g l) 0]) (leftsC com g))
def tabV : Nat → List Nat
 | 0 => []
 | k + 1 => tabV k ++ [valV com U D A (tabV k) k]
/-- the sorts of a group of arguments, by all ways to combine them -/
def V (g : Nat) : Nat := valV com U D A (tabV com U D A g) g
end
/-! ### how many are in a group -/
section
variable {com : Bool} {U : List Nat} {D : List (List Int × Int)} {A : List Nat}
end

/-! ### arguments in their order: a group is an interval -/
/-! ### the sorts of an application -/
end Go.Proofs.YtkkmjaggebjcbaaGreat.tsm
/-
 THE PROGRAM's FUNCTIONS OF THE SORTS OF TERMS: isBefore, upward, haveSorts, the results of declarations.
-/
namespace Go.Proofs.YtkkmjaggebjcbaaGreat.tsi
open Go.ChangeShapes Go.WideShapes Go.ChangeAt Go.RowKit
open mem split strl subs sortn setm sets sortm sortp sorti rowl sigm sigs tsm

end Go.Proofs.YtkkmjaggebjcbaaGreat.tsi
/-
 CONTRACTS OF THE LAWS' OWN FUNCTIONS ON OPERATORS AND SIGNATURES: toOpS, toSignature.
-/
namespace Go.Proofs.YtkkmjaggebjcbaaGreat.sigu
open Go.ChangeShapes Go.WideShapes Go.ChangeAt Go.RowKit
open mem split strl join subs setm sortp sorti rowl sigm sigs sigt

theorem setCell_own5 {w : World} {g n cap base : Nat} {e : TypeId} {xs : List Value} (h : w.ownsRow base e 5 (.slice (some ⟨g, 0, none⟩) n cap) n xs) (j : Nat) (u0 u1 u2 u3 u4 : Value) :
  (((((w.setCell ⟨g, j, none⟩ u0).setCell ⟨g, j + 1, none⟩ u1).setCell ⟨g, j + 2, none⟩ u2).setCell ⟨g, j + 3, none⟩ u3).setCell ⟨g, j + 4, none⟩ u4).ownsRow base e 5 (.slice (some ⟨g, 0, none⟩) n cap) n (((((xs.set j u0).set (j + 1) u1).set (j + 2) u2).set (j + 3) u3).set (j + 4) u4) :=
 setCell_own (setCell_own (setCell_own (setCell_own (setCell_own h j u0) (j + 1) u1) (j + 2) u2) (j + 3) u3) (j + 4) u4
theorem info_op : (Tryz.prog.info? 113).map (fun i => (i.zero, i.size, i.bytes)) = some (some (.agg #[.string { data := #[] }, .slice none 0 0, .bool false, .bool false, .int .i64 0]), 5, 56) := by kernel_rfl
set_option maxHeartbeats 1000000 in
/-- laws.toOpS -/
theorem toOpS_any (O : List OpM) (hO : SmO O) (v : Value) (w : World) {lo : Nat} (h : HasO lo w v O) :
  Calls Tryz.prog 37 #[v] w fun e w' => ∃ v', e = .returned v' ∧ HasO w.heap.size w' v' O ∧ Below w.heap.size w w' := by
 obtain ⟨n, hn⟩ : ∃ n, n = O.length := ⟨_, rfl⟩
 obtain ⟨A, c, rfl, h⟩ := HasR.shape h hn.symm
 obtain ⟨i0, hi, hz0, hz1, hz2⟩ := info_parts info_op
 have hn2 : n ≤ 1048576 := by have := hO.1; omega
 have HH := Lib.hid h
 have HN := Lib.hid hn
 have HD := Lib.hid hO.2
 clear h hn hO
 go_enter Tryz.func37, Tryz.ntmps37
 go_wp2_with (at_make; refine wpList_make_full _ rfl _ _ 40 rfl w.heap.size 113 i0 _ 5 Tryz.underlying40 hi hz0 hz1 _ _ _ _ n rfl rfl rfl rfl (by rw [hz2]; omega) (by unfold maxLen; omega) (Nat.le_refl _) ?_)
 intro w1 hown hgrow
 have hsz1 : w.heap.size < w1.heap.size := by
  rcases hown.2 with ⟨hv, _⟩ | ⟨g, cap, cur, hv, hb, hg, _⟩
  ·cases hv
  ·have := (Array.getElem?_eq_some_iff.1 hg).1; omega
 go_wp2
 go_loopw [4] (fun i wr => ∃ (j : Nat) (ys : List Value), j ≤ n ∧ i = .int .i64 j ∧ wr.ownsRow w.heap.size 113 5 (.slice (some ⟨w.heap.size, 0, none⟩) n n) n ys ∧
   Hid (∀ i, i < j → ∃ cs, (∀ q, q < 5 → ys[i * 5 + q]? = some (cs.getD q undef)) ∧ RO (w.heap.size + 1) wr cs (O.getD i default)) ∧ w.heap.size < wr.heap.size ∧ Below w.heap.size w wr) (fun i _ => n - (intOf i).toNat)
 case atStart => exact ⟨0, _, Nat.zero_le _, rfl, hown, Lib.hid (fun i hi => by omega), hsz1, (Below.refl _ _).grown hgrow (Nat.le_refl _) (by intro k h; cases h)⟩
 case round =>
  obtain ⟨j, ys, hj, rfl, hown, HY, hsz, hbel⟩ := hrel
  by_cases hlt : j < n
  ·obtain ⟨g, o, A2, c2, rfl, _, hg, hc0, hc1, hc2, hc3, hc4, hh, hnl, hi2⟩ := op_at HH.out hlt
   have hL := HD.out j (by have := HN.out; omega)
   rw [← hbel.cell (p := ⟨g, o + j * 5, none⟩) hg] at hc0
   rw [← hbel.cell (p := ⟨g, o + j * 5 + 1, none⟩) hg] at hc1
   rw [← hbel.cell (p := ⟨g, o + j * 5 + 2, none⟩) hg] at hc2
   rw [← hbel.cell (p := ⟨g, o + j * 5 + 3, none⟩) hg] at hc3
   rw [← hbel.cell (p := ⟨g, o + j * 5 + 4, none⟩) hg] at hc4
   have hh2 := hh.below RD_steady (Nat.le_refl _) hbel
   obtain ⟨⟨nm, D, a, b, u⟩, hd⟩ : ∃ d, d = O.getD j default := ⟨_, rfl⟩
   rw [← hd] at hc0 hc1 hc2 hc3 hc4 hh2 hL hnl hi2
   have HL := Lib.hid hh2
   have HX := Lib.hid hd
   have HI := Lib.hid (And.intro hnl hi2)
   have HOWN := Lib.hid hown
   have HSM := Lib.hid hL
   clear hh hh2 hd hown hi2 hnl hL
   go_wp2_with fail
   refine (toOp_any nm D HSM.out _ a b u _ HL.out).mono ?_
   rintro e w2 ⟨v2, rfl, hv2, hb2⟩
   obtain ⟨A3, c3, rfl, hv3⟩ := HasR.shape hv2 rfl
   have HO2 := Lib.hid (own_below HOWN.out hb2)
   have HV := Lib.hid hv3
   have HB2 := Lib.hid hb2
   obtain ⟨⟨v0, hw0⟩, hf0⟩ := own_get HO2.out (i := j * 5) (by omega)
   obtain ⟨⟨v1, hw1⟩, hf1⟩ := own_get HO2.out (i := j * 5 + 1) (by omega)
   obtain ⟨⟨v2, hw2⟩, hf2⟩ := own_get HO2.out (i := j * 5 + 2) (by omega)
   obtain ⟨⟨v3, hw3⟩, hf3⟩ := own_get HO2.out (i := j * 5 + 3) (by omega)
   obtain ⟨⟨v4, hw4⟩, hf4⟩ := own_get HO2.out (i := j * 5 + 4) (by omega)
   clear hv2 hv3
   go_wp2
   go_roundw
   case rel =>
    refine ⟨j + 1, _, by omega, by go_num, setCell_own5 HO2.out (j * 5) _ _ _ _ _, Lib.hid ?_, by simp [World.setCell]; have := hb2.size; omega, ?_⟩
    ·have hlen : ys.length = n * 5 := by have := HOWN.out.1; omega
     intro i hi
     by_cases hij : i = j
     ·subst hij
      refine ⟨[.string (bstr nm), .slice A3 D.length c3, .bool a, .bool b, .int .i64 u], set5_new (by omega), _, by rw [← HX.out], ?_, ?_⟩
      ·rw [← HX.out]
       repeat (refine HasR.kept RD_steady ?_ (Kept.set (by simp) _))
       exact HV.out.mono RD_steady (by omega)
      ·rw [← HX.out]; exact HI.out
     ·obtain ⟨cs, h1, h2⟩ := HY.out i (by omega)
      refine ⟨cs, fun q hq => ?_, ?_⟩
      ·rw [set5_old (by omega)]; exact h1 q hq
      ·repeat (refine RO_steady.kept ?_ (Kept.set (by simp) _))
       exact RO_steady.kept h2 (Kept.below HB2.out (Nat.le_refl _))
    ·repeat (refine Below.setCell ?_ (by simp) _)
     exact hbel.trans (HB2.out.mono hbel.size)
   case measure => simp [intOf]; omega
  ·obtain rfl : j = n := by omega
   have HW : Hid (HasO w.heap.size wr (.slice (some ⟨w.heap.size, 0, none⟩) j j) O) := Lib.hid (HasR.of_own hown HN.out.symm (fun i hi => by
    obtain ⟨cs, h1, h2⟩ := HY.out i hi
    exact ⟨cs, h1, RO_steady.mono h2 (by omega)⟩))
   clear hown
   go_wp2
   go_ret
   exact ⟨_, rfl, HW.out, hbel⟩
/-- laws.toSignature -/
theorem toSignature_any (P : List (List UInt8)) (Q : List (Int × Int)) (O : List OpM) (hS : (Small P ∧ Q.length ≤ 1048576) ∧ SmO O) (va vb vc : Value) (w : World) (h : HasG w va vb vc P Q O) :
  Calls Tryz.prog 9 #[.agg #[va, vb, vc]] w fun e w' => ∃ v1 v2 v3, e = .returned (.agg #[v1, v2, v3]) ∧ HasG w' v1 v2 v3 P Q O ∧ Below w.heap.size w w' := by
 obtain ⟨A, ca, B, cb, C, cc, rfl, rfl, rfl, hl1, hl2, hl3, h'⟩ := h.shape
 have HSA := Lib.hid (fun W (hW : Below w.heap.size w W) => toSorts_own P hS.1.1.1 Q hS.1.2 _ _ W (h'.below (Nat.le_refl _) hW).s.a (h'.below (Nat.le_refl _) hW).s.b)
 have HSB := Lib.hid (fun W (hW : Below w.heap.size w W) => toOpS_any O hS.2 _ W (h'.below (Nat.le_refl _) hW).o)
 have HSS := Lib.hid h'.s
 obtain ⟨n, hn⟩ : ∃ n, n = O.length := ⟨_, rfl⟩
 have HN := Lib.hid hn
 rw [← hn] at HSB hl3 ⊢
 clear h h' hn hS
 go_enter Tryz.func9, Tryz.ntmps9
 go_wp2_with fail
 refine (HSA.out _ ?_).mono ?_
 ·repeat (first | exact Below.refl _ _ | refine Below.alloc ?_ (by first | (simp; done) | (simp; omega)) _)
 rintro e w1 ⟨v1, v2, rfl, hw1, hw2, hb1⟩
 obtain ⟨A1, c1, rfl, _⟩ := own_slice hw1
 obtain ⟨A2, c2, rfl, _⟩ := own_slice hw2
 have HO1 := Lib.hid (own_down hw1 (base' := w.heap.size + 1 + 1 + 1) (by simp))
 have HO2 := Lib.hid (own_down hw2 (base' := w.heap.size + 1 + 1 + 1) (by simp))
 have hk1 : w1.heap[w.heap.size + 1]? = some (.cells #[.slice none 0 0, .slice none 0 0, .slice none 0 0] 42 (0, 0)) := by rw [hb1.block _ (by simp)]; exact (Below.heap_alloc _ _ _ (by simp)).trans (heap_at _ _ _ (by simp))
 have HK1 := Lib.hid hk1
 have hbw : Below w.heap.size w w1 := ((((Below.refl _ _).alloc (Nat.le_refl _) _).alloc (by simp) _).alloc (by simp; omega) _).trans (hb1.mono (by simp; omega))
 obtain ⟨hc1, hf1⟩ := bcell hb1
 have hz : w.heap.size + 2 < w1.heap.size := by have := hb1.size; simp at this; omega
 clear hw1 hw2 hk1 hb1
 go_wp2_with fail
 refine (HSB.out _ ?_).mono ?_
 ·exact (hbw.setCell (by simp; omega) _).setCell (by simp; omega) _
 rintro e w2 ⟨v3, rfl, hw3, hb2⟩
 obtain ⟨A3, c3, rfl, hh3⟩ := HasR.shape hw3 HN.out.symm
 have HV3 := Lib.hid (hh3.mono RO_steady (lo' := w.heap.size + 1 + 1 + 1) (by simp [World.setCell]; omega))
 have hk2 : w2.heap[w.heap.size + 1]? = some (.cells #[.slice none 0 0, .slice none 0 0, .slice none 0 0] 42 (0, 0)) := by
  rw [hb2.block _ (by simp [World.setCell]; omega), Below.heap_setCell _ _ _ _ (by simp), Below.heap_setCell _ _ _ _ (by simp)]; exact HK1.out
 have d0 : w2.cell? ⟨w.heap.size + 1, 0, none⟩ = some (.slice none 0 0) := cell_of_row w2 _ 0 _ _ _ hk2
 have d1 : w2.cell? ⟨w.heap.size + 1, 1, none⟩ = some (.slice none 0 0) := cell_of_row w2 _ 1 _ _ _ hk2
 have d2 : w2.cell? ⟨w.heap.size + 1, 2, none⟩ = some (.slice none 0 0) := cell_of_row w2 _ 2 _ _ _ hk2
 have e0 := frozen_of_row w2 _ 0 _ _ hk2
 have e1 := frozen_of_row w2 _ 1 _ _ hk2
 have e2 := frozen_of_row w2 _ 2 _ _ hk2
 have HO1' := Lib.hid (own_below (own_grown (own_grown HO1.out (grown_set (g := w.heap.size + 1 + 1) (World.grownBy.refl _ _) 0 (.slice A1 P.length c1)) (by simp)) (grown_set (g := w.heap.size + 1 + 1) (World.grownBy.refl _ _) 1 (.slice A2 Q.length c2)) (by simp)) hb2)
 have HO2' := Lib.hid (own_below (own_grown (own_grown HO2.out (grown_set (g := w.heap.size + 1 + 1) (World.grownBy.refl _ _) 0 (.slice A1 P.length c1)) (by simp)) (grown_set (g := w.heap.size + 1 + 1) (World.grownBy.refl _ _) 1 (.slice A2 Q.length c2)) (by simp)) hb2)
 have hbw2 : Below w.heap.size w w2 := by
  refine Below.trans ?_ (hb2.mono ?_)
  ·exact (hbw.setCell (by simp; omega) _).setCell (by simp; omega) _
  ·simp [World.setCell]; omega
 obtain ⟨hc2, hf2⟩ := bcell hb2
 have hz2 : w.heap.size + 2 < w2.heap.size := by have := hb2.size; simp [World.setCell] at this; omega
 clear hw3 hh3 hk2 hb2
 go_wp2
 refine bodyPost_ret (v := .agg #[.slice A1 P.length c1, .slice A2 Q.length c2, .slice A3 n c3]) (by simp [results, Tryz.results9, go_sem, d0, d1, d2]) rfl ⟨_, _, _, rfl, ⟨⟨?_, ?_, HSS.out.short, HSS.out.in64⟩, ?_⟩, ?_⟩
 ·refine Has.of_own (base := w.heap.size + 1 + 1 + 1) (n := P.length) (e := 9) ?_
  repeat (refine own_grown ?_ (grown_set (World.grownBy.refl _ _) _ _) (by simp))
  exact HO1'.out
 ·refine HasP.of_own (base := w.heap.size + 1 + 1 + 1) (n := Q.length) (e := 163) ?_
  repeat (refine own_grown ?_ (grown_set (World.grownBy.refl _ _) _ _) (by simp))
  exact HO2'.out
 ·refine HasR.mono RO_steady (lo := w.heap.size + 1 + 1 + 1) ?_ (Nat.zero_le _)
  repeat (refine HasR.kept RO_steady ?_ (Kept.set (by simp) _))
  exact HV3.out
 ·repeat (refine Below.setCell ?_ (by first | (simp; done) | (simp; omega)) _)
  exact hbw2
end Go.Proofs.YtkkmjaggebjcbaaGreat.sigu
