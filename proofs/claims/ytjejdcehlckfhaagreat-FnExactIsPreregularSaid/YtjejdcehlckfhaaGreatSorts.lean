/-
  THE MODEL's FUNCTIONS OF SORTS: IsSorts, AboveSort, BelowSort, KindOfSort, LeastSorts, GreatestSorts, CommonSorts.
-/
import Derived.Test.YtjejdcehlckfhaaGreatSortu
namespace Go.Proofs.YtjejdcehlckfhaaGreat.sorts
open Go.ChangeShapes Go.WideShapes Go.ChangeAt Go.RowKit
open mem split strl subs sortn setm sets sortm sortp sorti sortf sortu

theorem in_range (x : Int) (n : Nat) (_hn : 1 ≤ n) : inI x 0 ((n : Int) - 1) = decide (0 ≤ x ∧ x < n) := by
  rw [inI, decide_eq_decide]; omega
theorem okS_names {P : List (List UInt8)} {Q : List (Int × Int)} (h : namesOk P = false) : okS P Q = false := by rw [okS, h]; rfl
theorem okS_subs {P : List (List UInt8)} {Q : List (Int × Int)} (h : subsOk P.length Q = false) : okS P Q = false := by rw [okS, h]; simp
set_option maxHeartbeats 4000000 in
/-- spec.IsSorts -/
theorem sIsSorts_any (P : List (List UInt8)) (Q : List (Int × Int)) (va vb : Value) (r : Bool) (hr : okS P Q = r) (w : World) (h : HasS w va vb P Q) :
    Calls Tryz.prog 92 #[.agg #[va, vb]] w fun e w' => e = .returned (.bool r) ∧ Below w.heap.size w w' := by
  obtain ⟨A, ca, B, cb, rfl, rfl, hla, hlb, h'⟩ := h.shape
  have HH := Lib.hid h'
  have HR := Lib.hid hr
  have hcap : P.length ≤ ca := by obtain ⟨A', c', e, h1, h2, _⟩ := h'.a; simp only [Value.slice.injEq] at e; rw [e.2.2, ← ssv_len P]; exact h1
  clear h h' hr
  by_cases hlo : P.length < 1
  · have HQ : Hid (r = false) := Lib.hid (by rw [← HR.out]; exact okS_names (by simp [namesOk]; omega))
    go_enter Tryz.func92, Tryz.ntmps92
    go_wp2
    go_ret
    exact ⟨ret_bool HQ.out.symm, (Below.refl _ _).alloc (Nat.le_refl _) _⟩
  by_cases hhi : 8 < P.length
  · have HQ : Hid (r = false) := Lib.hid (by rw [← HR.out]; exact okS_names (by simp [namesOk]; omega))
    go_enter Tryz.func92, Tryz.ntmps92
    go_wp2
    go_ret
    exact ⟨ret_bool HQ.out.symm, (Below.refl _ _).alloc (Nat.le_refl _) _⟩
  have hd1 : decide ((P.length : Int) < 1) = false := by simp; omega
  have hd2 : decide ((8 : Int) < (P.length : Int)) = false := by simp; omega
  by_cases hq : 16 < Q.length
  · have HQ : Hid (r = false) := Lib.hid (by rw [← HR.out]; exact okS_subs (by simp [subsOk]; omega))
    go_enter Tryz.func92, Tryz.ntmps92
    go_wp2
    go_ret
    exact ⟨ret_bool HQ.out.symm, (Below.refl _ _).alloc (Nat.le_refl _) _⟩
  have hd3 : decide ((16 : Int) < (Q.length : Int)) = false := by simp; omega
  obtain ⟨n, hn⟩ : ∃ n, n = P.length := ⟨_, rfl⟩
  obtain ⟨m, hm⟩ : ∃ m, m = Q.length := ⟨_, rfl⟩
  rw [← hn] at HH hla hcap hlo hhi hd1 hd2 ⊢
  rw [← hm] at HH hlb hq hd3 ⊢
  have HNM := Lib.hid (fun h => okS_names (P := P) (Q := Q) h)
  have HNS := Lib.hid (fun h => okS_subs (P := P) (Q := Q) h)
  have HN := Lib.hid hn
  have HM := Lib.hid hm
  clear hn hm
  go_enter Tryz.func92, Tryz.ntmps92
  go_wp2
  go_loopw [3] (fun i wr => ∃ k : Nat, k ≤ n ∧ i = .int .i64 k ∧ Hid (namesTo P k = true) ∧ Below (w.heap.size + 1) (w.alloc (.cells #[.slice A n ca, .slice B m cb] 37)) wr) (fun i _ => n - (intOf i).toNat)
  case atStart => exact ⟨0, Nat.zero_le _, rfl, Lib.hid rfl, Below.refl _ _⟩
  case round =>
    obtain ⟨k, hk, rfl, HX, hbel⟩ := hrel
    have c0 : wr.cell? ⟨w.heap.size, 0, none⟩ = some (.slice A n ca) := by rw [hbel.cell (p := ⟨w.heap.size, 0, none⟩) (by simp)]; simp
    have hbw : Below w.heap.size w wr := ((Below.refl _ _).alloc (Nat.le_refl _) _).trans (hbel.mono (by omega))
    by_cases hlt : k < n
    · have hHS := HH.out.below (Nat.le_refl _) hbw
      obtain ⟨g, o, rfl, hg, hcell⟩ := hHS.a.cellAt hlt
      rw [ssv_get P k (by have := HN.out; omega)] at hcell
      have HT := Lib.hid (has_take hHS.a (k := k) (by omega))
      rw [ssv_take] at HT
      have HS := Lib.hid (namesTo_succ P k)
      have HB := Lib.hid (namesTo_bad P k P.length (by have := HN.out; omega))
      have HP2 := Lib.hid (hHS.short k (by have := HN.out; omega))
      obtain ⟨x, hx⟩ : ∃ x, x = P.getD k [] := ⟨_, rfl⟩
      rw [← hx] at hcell HS HB HP2
      have HC := Lib.hid (fun r hr q => l1Has_any (P.take k) x (.slice (some ⟨g, o, none⟩) k ca) r hr (wr.drewN q) (HT.out.below (Nat.le_refl _) (below_drewN (Below.refl _ _) q)))
      have HBEL := Lib.hid hbel
      have HBW := Lib.hid hbw
      clear hx hHS hbel hbw
      cases hnm : nameOk x with
      | false =>
        have HQ : Hid (r = false) := Lib.hid (by rw [← HR.out]; exact HNM.out (by rw [namesOk, HB.out (.inl hnm)]; simp))
        have HNA := Lib.hid (fun W => sName_any x HP2.out false hnm W)
        clear hnm
        go_wp2
        go_quiet ((go_at_call 98; exact (HNA.out _).mono (fun _ _ h => ⟨h.1, _, h.2.symm⟩)))
        go_wp2
        go_ret
        exact ⟨ret_bool HQ.out.symm, below_drewN HBW.out _⟩
      | true =>
        have HNA := Lib.hid (fun W => sName_any x HP2.out true hnm W)
        by_cases hmm : x ∈ P.take k
        · have HQ : Hid (r = false) := Lib.hid (by rw [← HR.out]; exact HNM.out (by rw [namesOk, HB.out (.inr hmm)]; simp))
          have HC2 := Lib.hid (HC.out true (by simpa using hmm))
          clear hnm hmm
          go_wp2
          go_quiet (first | (go_at_call 98; exact (HNA.out _).mono (fun _ _ h => ⟨h.1, _, h.2.symm⟩)) | (go_at_call 140; exact (HC2.out _).mono (fun _ _ h => ⟨h.1, _, h.2.symm⟩)))
          go_wp2
          go_ret
          exact ⟨ret_bool HQ.out.symm, below_drewN HBW.out _⟩
        · have HX2 : Hid (namesTo P (k + 1) = true) := Lib.hid (by rw [HS.out, HX.out, hnm]; simpa using hmm)
          have HC2 := Lib.hid (HC.out false (by simpa using hmm))
          clear hnm hmm
          go_wp2
          go_quiet (first | (go_at_call 98; exact (HNA.out _).mono (fun _ _ h => ⟨h.1, _, h.2.symm⟩)) | (go_at_call 140; exact (HC2.out _).mono (fun _ _ h => ⟨h.1, _, h.2.symm⟩)))
          go_wp2
          go_roundw
          case rel => exact ⟨k + 1, by omega, by go_num, HX2, below_drewN HBEL.out _⟩
          case measure => simp [intOf]; omega
    · obtain rfl : k = n := by omega
      have HNAMES : Hid (namesOk P = true) := Lib.hid (by
        have h1 := HX.out
        rw [HN.out] at h1
        have h2 := HN.out
        rw [namesOk, h1]; simp; omega)
      have HBEL := Lib.hid hbel
      clear hbw hbel
      go_wp2
      clear c0
      go_loopw [4] (fun i wr => ∃ j : Nat, j ≤ m ∧ i = .int .i64 j ∧ Hid (subsTo k Q j = true) ∧ Below (w.heap.size + 1) (w.alloc (.cells #[.slice A k ca, .slice B m cb] 37)) wr) (fun i _ => m - (intOf i).toNat)
      case atStart => exact ⟨0, Nat.zero_le _, rfl, Lib.hid rfl, HBEL.out⟩
      case round =>
        obtain ⟨j, hj, rfl, HX2, hbel⟩ := hrel
        have c0 : wr.cell? ⟨w.heap.size, 0, none⟩ = some (.slice A k ca) := by rw [hbel.cell (p := ⟨w.heap.size, 0, none⟩) (by simp)]; simp
        have c1 : wr.cell? ⟨w.heap.size, 1, none⟩ = some (.slice B m cb) := by rw [hbel.cell (p := ⟨w.heap.size, 1, none⟩) (by simp)]; simp
        have hbw : Below w.heap.size w wr := ((Below.refl _ _).alloc (Nat.le_refl _) _).trans (hbel.mono (by omega))
        by_cases hlt : j < m
        · have hHS := HH.out.below (Nat.le_refl _) hbw
          obtain ⟨g, o, rfl, hg, hcell, hcell2⟩ := hHS.b.cellAt hlt
          have hin := hHS.in64.get j
          have HBAD : Hid (subOk k (Q.getD j (0, 0)) = false → r = false) := Lib.hid (by
            intro h; rw [← HR.out]
            refine HNS.out ?_
            rw [subsOk, ← HN.out, subs_bad k Q j (by have := HM.out; omega) h]; simp)
          have HG : Hid (subOk k (Q.getD j (0, 0)) = true → subsTo k Q (j + 1) = true) := Lib.hid (by intro h; rw [subsTo_succ k Q j (by have := HM.out; omega), HX2.out, h]; rfl)
          have HS : Hid (subOk k (Q.getD j (0, 0)) = (decide (0 ≤ (Q.getD j (0, 0)).1 ∧ (Q.getD j (0, 0)).1 < k) && decide (0 ≤ (Q.getD j (0, 0)).2 ∧ (Q.getD j (0, 0)).2 < k) && decide ((Q.getD j (0, 0)).1 ≠ (Q.getD j (0, 0)).2))) := Lib.hid rfl
          obtain ⟨s, hs⟩ : ∃ s, s = subOk k (Q.getD j (0, 0)) := ⟨_, rfl⟩
          rw [← hs] at HBAD HG HS
          obtain ⟨x, hx⟩ : ∃ x, x = (Q.getD j (0, 0)).1 := ⟨_, rfl⟩
          obtain ⟨y, hy⟩ : ∃ y, y = (Q.getD j (0, 0)).2 := ⟨_, rfl⟩
          rw [← hx, ← hy] at hin HS
          rw [← hx] at hcell
          rw [← hy] at hcell2
          have HBEL2 := Lib.hid hbel
          have HBW := Lib.hid hbw
          clear hs hx hy hHS hbel hbw
          have HIX := Lib.hid (in_range x k (by omega))
          have HIY := Lib.hid (in_range y k (by omega))
          cases h1 : inI x 0 ((k : Int) - 1) with
          | false =>
            have HI := Lib.hid h1
            have HQ : Hid (r = false) := Lib.hid (HBAD.out (by rw [HS.out, ← HIX.out, h1]; rfl))
            clear h1
            go_wp2
            go_quiet ((go_at_call 141; exact (l1In_any _ _ _ _ HI.out _).mono (fun _ _ h => ⟨h.1, _, h.2.symm⟩)))
            go_wp2
            go_ret
            exact ⟨ret_bool HQ.out.symm, below_drewN HBW.out _⟩
          | true =>
            have HI := Lib.hid h1
            cases h2 : inI y 0 ((k : Int) - 1) with
            | false =>
              have HI2 := Lib.hid h2
              have HQ : Hid (r = false) := Lib.hid (HBAD.out (by rw [HS.out, ← HIX.out, ← HIY.out, h1, h2]; rfl))
              clear h1 h2
              go_wp2
              go_quiet ((go_at_call 141; exact (l1In_any _ _ _ _ (by first | exact HI.out | exact HI2.out) _).mono (fun _ _ h => ⟨h.1, _, h.2.symm⟩)))
              go_wp2
              go_ret
              exact ⟨ret_bool HQ.out.symm, below_drewN HBW.out _⟩
            | true =>
              have HI2 := Lib.hid h2
              by_cases h3 : x = y
              · have HQ : Hid (r = false) := Lib.hid (HBAD.out (by rw [HS.out, ← HIX.out, ← HIY.out, h1, h2, h3]; simp))
                have he : (x == y) = true := by simpa using h3
                clear h1 h2 h3
                go_wp2
                go_quiet ((go_at_call 141; exact (l1In_any _ _ _ _ (by first | exact HI.out | exact HI2.out) _).mono (fun _ _ h => ⟨h.1, _, h.2.symm⟩)))
                go_wp2
                go_ret
                exact ⟨ret_bool HQ.out.symm, below_drewN HBW.out _⟩
              · have HX3 : Hid (subsTo k Q (j + 1) = true) := Lib.hid (HG.out (by rw [HS.out, ← HIX.out, ← HIY.out, h1, h2]; simpa using h3))
                have he : (x == y) = false := by simpa using h3
                clear h1 h2 h3
                go_wp2
                go_quiet ((go_at_call 141; exact (l1In_any _ _ _ _ (by first | exact HI.out | exact HI2.out) _).mono (fun _ _ h => ⟨h.1, _, h.2.symm⟩)))
                go_wp2
                go_roundw
                case rel => exact ⟨j + 1, by omega, by go_num, HX3, below_drewN HBEL2.out _⟩
                case measure => simp [intOf]; omega
        · obtain rfl : j = m := by omega
          have HSUBS : Hid (subsOk k Q = true) := Lib.hid (by
            have h1 := HX2.out
            have h2 := HM.out
            rw [subsTo, List.take_of_length_le (by omega)] at h1
            rw [subsOk, h1]; simp; omega)
          obtain ⟨hpin, hq16⟩ := subsOk_pin HSUBS.out
          have hpin2 : PIn P.length Q := by rw [← HN.out]; exact hpin
          have HUP := Lib.hid (l3Up_any P Q (by have := HN.out; omega) (by have := HN.out; omega) (by omega) hpin2 _ _ wr (HH.out.below (Nat.le_refl _) hbw))
          rw [← HN.out] at HUP
          have HOKC : Hid (okS P Q = !circ k (clo k (prs Q))) := Lib.hid (by rw [okS, HNAMES.out, ← HN.out, HSUBS.out]; simp)
          have hlt2 := fun i => clo_lt hpin.inR i
          have hcl := clo_len k (prs Q)
          obtain ⟨U, hU⟩ : ∃ U, U = clo k (prs Q) := ⟨_, rfl⟩
          rw [← hU] at HUP HOKC hlt2 hcl
          have hp8 := pow8 (n := k) (by omega)
          have HLT : Hid (∀ i, U.getD i 0 < 65536) := Lib.hid (fun i => by have := hlt2 i; omega)
          have HBW := Lib.hid hbw
          have HCL := Lib.hid hcl
          clear hU hpin hpin2 hq16 hlt2 hbw hbel hcl
          go_wp2_with (go_at_call 77; refine HUP.out.mono ?_; rintro e w1 ⟨uv, rfl, hown, hb1⟩; obtain ⟨gu, cu, rfl, hgu, hgs⟩ := own_shape hown (by intro e; have := hown.1; rw [e] at this; simp at this; omega); have HOWN := Lib.hid hown; clear hown)
          go_loop [6] (fun i => ∃ h : Nat, h ≤ k ∧ i = .int .i64 h ∧ Hid (∀ a b, a < h → b < a → ¬ ((U.getD b 0).testBit a = true ∧ (U.getD a 0).testBit b = true))) (fun i => k - (intOf i).toNat)
          case atStart => exact ⟨0, Nat.zero_le _, rfl, Lib.hid (fun a b h => by omega)⟩
          case round =>
            obtain ⟨h, hh, rfl, HY⟩ := hrel
            by_cases hlt : h < k
            · obtain ⟨d0, _⟩ := in_cell HOWN.out hlt
              go_wp2
              go_loop [7] (fun i => ∃ l : Nat, l ≤ h ∧ i = .int .i64 l ∧ Hid (∀ b, b < l → ¬ ((U.getD b 0).testBit h = true ∧ (U.getD h 0).testBit b = true))) (fun i => h - (intOf i).toNat)
              case atStart => exact ⟨0, Nat.zero_le _, rfl, Lib.hid (fun b h => by omega)⟩
              case round =>
                obtain ⟨l, hl, rfl, HZ⟩ := hrel
                by_cases hlt2 : l < h
                · obtain ⟨d1, _⟩ := in_cell HOWN.out (show l < k by omega)
                  have HT : Hid ((U.getD h 0).testBit l = true → (U.getD l 0).testBit h = true → r = false) := Lib.hid (fun e2 e1 => by rw [← HR.out, HOKC.out, circ_true hlt hlt2 e1 e2]; rfl)
                  have HF : Hid (¬ ((U.getD l 0).testBit h = true ∧ (U.getD h 0).testBit l = true) → ∀ b, b < l + 1 → ¬ ((U.getD b 0).testBit h = true ∧ (U.getD h 0).testBit b = true)) := Lib.hid (fun e b hb => by
                    by_cases hbl : b = l
                    · subst hbl; exact e
                    · exact HZ.out b (by omega))
                  have HI1 := Lib.hid (hasI_nat (U.getD h 0) l (by omega))
                  have HI2 := Lib.hid (hasI_nat (U.getD l 0) h (by omega))
                  obtain ⟨s, hs⟩ : ∃ s, s = U.getD l 0 := ⟨_, rfl⟩
                  obtain ⟨t, ht⟩ : ∃ t, t = U.getD h 0 := ⟨_, rfl⟩
                  rw [← hs] at d1 HI2
                  rw [← ht] at d0 HI1
                  rw [← hs, ← ht] at HT HF
                  have HTT := Lib.hid ht
                  clear hs ht
                  cases h1 : t.testBit l with
                  | false =>
                    have HD : Hid (hasI t l = false) := Lib.hid (HI1.out.trans h1)
                    have HF2 := Lib.hid (HF.out (by rw [h1]; simp))
                    clear h1
                    go_wp2_with (go_at_call 91; refine (l2Has_any _ _ _ HD.out _).mono ?_; rintro e w2 ⟨rfl, rfl⟩)
                    go_round
                    case rel => exact ⟨l + 1, by omega, by go_num, Lib.hid (by have := HF2.out; rw [HTT.out] at this; exact this)⟩
                    case measure => simp [intOf]; omega
                  | true =>
                    have HD : Hid (hasI t l = true) := Lib.hid (HI1.out.trans h1)
                    cases h2 : s.testBit h with
                    | false =>
                      have HD2 : Hid (hasI s h = false) := Lib.hid (HI2.out.trans h2)
                      have HF2 := Lib.hid (HF.out (by rw [h2]; simp))
                      clear h1 h2
                      go_wp2_with (go_at_call 91; refine (l2Has_any _ _ _ (by first | exact HD.out | exact HD2.out) _).mono ?_; rintro e w2 ⟨rfl, rfl⟩)
                      go_round
                      case rel => exact ⟨l + 1, by omega, by go_num, Lib.hid (by have := HF2.out; rw [HTT.out] at this; exact this)⟩
                      case measure => simp [intOf]; omega
                    | true =>
                      have HD2 : Hid (hasI s h = true) := Lib.hid (HI2.out.trans h2)
                      have HQ := Lib.hid (HT.out h1 h2)
                      clear h1 h2
                      go_wp2_with (go_at_call 91; refine (l2Has_any _ _ _ (by first | exact HD.out | exact HD2.out) _).mono ?_; rintro e w2 ⟨rfl, rfl⟩)
                      go_ret
                      exact ⟨ret_bool HQ.out.symm, HBW.out.trans (hb1.mono HBW.out.size)⟩
                · obtain rfl : l = h := by omega
                  go_wp2
                  go_round
                  case rel =>
                    refine ⟨l + 1, by omega, by go_num, Lib.hid (fun a b ha hb => ?_)⟩
                    by_cases hal : a = l
                    · subst hal; exact HZ.out b hb
                    · exact HY.out a b (by omega) hb
                  case measure => simp [intOf]; omega
            · obtain rfl : h = k := by omega
              have HQ : Hid (r = true) := Lib.hid (by rw [← HR.out, HOKC.out, circ_false (fun a b ha hb => HY.out a b ha hb)]; rfl)
              go_wp2
              go_ret
              exact ⟨ret_bool HQ.out.symm, HBW.out.trans (hb1.mono HBW.out.size)⟩
end Go.Proofs.YtjejdcehlckfhaaGreat.sorts
