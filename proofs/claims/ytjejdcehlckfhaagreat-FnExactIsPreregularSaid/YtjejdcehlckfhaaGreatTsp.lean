/-
  THE MODEL's FUNCTIONS OF THE SORTS OF TERMS: l3Close, l7Give, l7Apply.
-/
import Derived.Test.YtjejdcehlckfhaaGreatTsl
import Derived.Test.YtjejdcehlckfhaaGreatTsa
import Derived.Test.YtjejdcehlckfhaaGreatSortu
import Derived.Test.YtjejdcehlckfhaaGreatSortg
namespace Go.Proofs.YtjejdcehlckfhaaGreat.tsp
open Go.ChangeShapes Go.WideShapes Go.ChangeAt Go.RowKit
open mem split strl subs sortn setm sets sortm sortp sorti sortf sortu sortg rowl sigm sigs sigk trm tsa tsm tsi tsj

theorem natsC {L : List Nat} {k : Nat} (h : k < L.length) : (ivs (nats L)).getD k undef = .int .i64 ((L.getD k 0 : Nat) : Int) := by
  rw [ivs_get _ _ (by rw [nats_len]; exact h), nats_get]
/-- spec.l3Close -/
theorem l3Close_any (U : List Nat) (hU : Lim U) (S : Nat) (_hS : S < 65536) (vu : Value) (w : World) (h : Has w vu (ivs (nats U))) :
    Calls Tryz.prog 173 #[vu, .int .i64 (S : Int)] w fun e w' => e = .returned (.int .i64 ((upC U S : Nat) : Int)) ∧ w = w' := by
  obtain ⟨n, hn⟩ : ∃ n, n = U.length := ⟨_, rfl⟩
  obtain ⟨A, c, rfl, h⟩ := h.shape (n := n) (by rw [ivs_len, nats_len, hn])
  have hl := h.len.2
  have HH := Lib.hid h
  have HU := Lib.hid hU
  have HN := Lib.hid hn
  have hn8 : n ≤ 8 := by rw [hn]; exact hU.1
  have HQ := Lib.hid (closeTo_eq hU S)
  have HLT := Lib.hid (closeTo_lt hU S)
  have hp := pow8 hU.1
  rw [← hn] at HQ HLT hp
  obtain ⟨uv, huv⟩ : ∃ q, q = upC U S := ⟨_, rfl⟩
  rw [← huv] at HQ ⊢
  clear h hU hn huv
  go_enter Tryz.func173, Tryz.ntmps173
  go_wp2
  go_loop [5, 6] (fun s i => ∃ k : Nat, k ≤ n ∧ i = .int .i64 k ∧ s = .int .i64 ((closeTo U S k : Nat) : Int)) (fun _ i => n - (intOf i).toNat)
  case atStart => exact ⟨0, Nat.zero_le _, rfl, rfl⟩
  case round =>
    obtain ⟨k, hk, rfl, rfl⟩ := hrel
    by_cases hlt : k < n
    · obtain ⟨g, o, rfl, hg, hcell⟩ := HH.out.cellAt hlt
      rw [natsC (by have := HN.out; omega)] at hcell
      have HI := Lib.hid (hasI_nat S k (by omega))
      have HGH := Lib.hid (fun h => closeTo_hit (U := U) (S := S) (k := k) h)
      have HGM := Lib.hid (fun h => closeTo_miss (U := U) (S := S) (k := k) h)
      have hG := HLT.out k
      have hu := HU.out.lt k
      obtain ⟨G, hGe⟩ : ∃ q, q = closeTo U S k := ⟨_, rfl⟩
      rw [← hGe] at HGH HGM hG ⊢
      obtain ⟨u, hue⟩ : ∃ q, q = U.getD k 0 := ⟨_, rfl⟩
      rw [← hue] at HGH hcell hu
      have hor := or_i64 G u (by omega) hu
      have i1 : (0 : Int) ≤ (k : Int) := by omega
      have i2 : (k : Int) < (n : Int) := by omega
      clear hGe hue
      cases hb : S.testBit k with
      | true =>
        have HD : Hid (hasI S k = true) := Lib.hid (HI.out.trans hb)
        have HE := Lib.hid (HGH.out hb)
        clear hb
        go_wp2_with (go_at_call 91; refine (l2Has_any _ _ _ HD.out _).mono ?_; rintro e w3 ⟨rfl, rfl⟩)
        go_round
        case rel => exact ⟨k + 1, by omega, by go_num, by rw [HE.out]⟩
        case measure => simp [intOf]; omega
      | false =>
        have HD : Hid (hasI S k = false) := Lib.hid (HI.out.trans hb)
        have HE := Lib.hid (HGM.out hb)
        clear hb
        go_wp2_with (go_at_call 91; refine (l2Has_any _ _ _ HD.out _).mono ?_; rintro e w3 ⟨rfl, rfl⟩)
        go_round
        case rel => exact ⟨k + 1, by omega, by go_num, by rw [HE.out]⟩
        case measure => simp [intOf]; omega
    · obtain rfl : k = n := by omega
      go_wp2
      go_ret
      exact ⟨ret_int (by rw [HQ.out]), rfl⟩
set_option maxRecDepth 20000 in
set_option maxHeartbeats 4000000 in
/-- spec.l7Give -/
theorem l7Give_any (U : List Nat) (hU : Lim U) (D : List (List Int × Int)) (A : List Nat) (hDN : DeclN U.length A.length D) (hA : ∀ i, A.getD i 0 < 65536) (vu vd va : Value) (w : World) {lo : Nat} (h : Has w vu (ivs (nats U))) (hD : HasD lo w vd D) (h1 : Has w va (ivs (nats A))) :
    Calls Tryz.prog 131 #[vu, vd, va] w fun e w' => e = .returned (.int .i64 ((upC U (giveR D A) : Nat) : Int)) ∧ Below w.heap.size w w' := by
  have hpn := pow8 hU.1
  have hgl := giveR_lt hDN A
  have HCL := Lib.hid (fun W (hW : Below w.heap.size w W) => l3Close_any U hU (giveR D A) (by omega) vu W (h.below (Nat.le_refl _) hW))
  have HLT := Lib.hid (fun k => giveR_lt (hDN.take k) A)
  obtain ⟨uv, huv⟩ : ∃ q, q = upC U (giveR D A) := ⟨_, rfl⟩
  rw [← huv] at HCL ⊢
  obtain ⟨Au, cu, rfl, _⟩ := h.shape rfl
  obtain ⟨q, hq⟩ : ∃ q, q = D.length := ⟨_, rfl⟩
  obtain ⟨p, hp⟩ : ∃ p, p = A.length := ⟨_, rfl⟩
  obtain ⟨Ad, cd, rfl, hD⟩ := HasR.shape hD hq.symm
  obtain ⟨Aa, ca, rfl, h1⟩ := h1.shape (n := p) (by rw [ivs_len, nats_len, hp])
  have hql := hD.len.2.1
  have hpl := h1.len.2
  have HD := Lib.hid hD
  have HA := Lib.hid h1
  have HDN := Lib.hid hDN
  have HA2 := Lib.hid hA
  have HQ := Lib.hid hq
  have HP := Lib.hid hp
  have hU8 := hU.1
  obtain ⟨nu, hnu⟩ : ∃ q, q = (ivs (nats U)).length := ⟨_, rfl⟩
  rw [← hnu] at HCL ⊢
  clear h hD h1 hDN hA hU hq hp huv hnu
  go_enter Tryz.func131, Tryz.ntmps131
  go_wp2
  go_loopw [7, 8, 9, 10] (fun s i _ _ wr => ∃ k : Nat, k ≤ q ∧ i = .int .i64 k ∧ s = .int .i64 ((giveR (D.take k) A : Nat) : Int) ∧ Hid (Below w.heap.size w wr)) (fun _ i _ _ _ => q - (intOf i).toNat)
  case atStart => exact ⟨0, Nat.zero_le _, rfl, rfl, Lib.hid (Below.refl _ _)⟩
  case round =>
    obtain ⟨k, hk, rfl, rfl, HB⟩ := hrel
    by_cases hlt : k < q
    · obtain ⟨g, o, A2, c2, rfl, _, hg, hc0, hc1, hh, _, _⟩ := decl_at HD.out hlt
      have hkD : k < D.length := by have := HQ.out; omega
      obtain ⟨q1, q2, q3⟩ := DeclN.at HDN.out hkD
      have HHIT := Lib.hid (fun h => give_hit (A := A) hkD h)
      have HMISS := Lib.hid (fun h => give_miss (A := A) hkD h)
      have hGl := HLT.out k
      rw [show (D.getD k default) = D.getD k ([], 0) from rfl] at hc0 hc1 hh
      obtain ⟨d, hd⟩ : ∃ d, d = (D.getD k ([], 0)).1 := ⟨_, rfl⟩
      obtain ⟨x, hx⟩ : ∃ x, x = (D.getD k ([], 0)).2 := ⟨_, rfl⟩
      rw [← hd] at hc0 q1 q3 HHIT HMISS hh
      rw [← hx] at hc1 q2 HHIT
      obtain ⟨j, rfl⟩ : ∃ j : Nat, x = (j : Int) := ⟨x.toNat, by omega⟩
      rw [Int.toNat_natCast] at HHIT
      have hj : j < 16 := by omega
      obtain ⟨G, hG⟩ : ∃ G, G = giveR (D.take k) A := ⟨_, rfl⟩
      rw [← hG] at HHIT HMISS hGl ⊢
      have hG16 : G < 65536 := by omega
      have hpj : 2 ^ j < 65536 := pow_lt hj
      have HBJ := Lib.hid (fun W => l2Bit_any j hj W)
      obtain ⟨y, hy⟩ : ∃ y, y = 2 ^ j := ⟨_, rfl⟩
      rw [← hy] at HBJ HHIT hpj
      have hor := or_i64 G y hG16 hpj
      have HC0 := Lib.hid hc0
      have HC1 := Lib.hid hc1
      have HH := Lib.hid hh.has
      have HD1 := Lib.hid (And.intro q1 q3)
      have i1 : (0 : Int) ≤ (k : Int) := by omega
      have i2 : (k : Int) < (q : Int) := by omega
      clear hd hx hG hy hc0 hc1 hh q1 q2 q3
      go_wp2
      go_loopw [9, 10] (fun b i wr => ∃ (k2 : Nat) (bb : Bool), k2 ≤ p ∧ i = .int .i64 k2 ∧ b = .bool bb ∧ Hid (bb = fitTo A d k2) ∧ Hid (Below w.heap.size w wr)) (fun _ i _ => p - (intOf i).toNat)
      case atStart => exact ⟨0, true, Nat.zero_le _, rfl, rfl, Lib.hid rfl, HB⟩
      case round =>
        clear HB
        obtain ⟨k2, bb, hk2, rfl, rfl, HF, HB⟩ := hrel
        by_cases hlt2 : k2 < p
        · obtain ⟨g2, o2, rfl, hg2, hcell2⟩ := HA.out.cellAt hlt2
          rw [natsC (by have := HP.out; omega)] at hcell2
          have hdl : d.length = p := by rw [HD1.out.1, ← HP.out]
          obtain ⟨g3, o3, rfl, hg3, hcell3⟩ := HH.out.cellAt (j := k2) (by omega)
          rw [ivs_get _ k2 (by omega)] at hcell3
          have hd0 := HD1.out.2 k2 (by rw [← HP.out]; exact hlt2)
          have hS := fitTo_succ A d k2
          have ha0 := HA2.out k2
          have b2 := (HB.out.cell (p := ⟨g2, o2 + k2, none⟩) hg2).trans hcell2
          have b3 := (HB.out.cell (p := ⟨g3, o3 + k2, none⟩) hg3).trans hcell3
          have b0 := (HB.out.cell (p := ⟨g, o + k * 2, none⟩) hg).trans HC0.out
          rw [hdl] at b0
          obtain ⟨a, ha⟩ : ∃ q, q = A.getD k2 0 := ⟨_, rfl⟩
          rw [← ha] at b2 hS ha0
          obtain ⟨v, hv⟩ : ∃ q, q = d.getD k2 0 := ⟨_, rfl⟩
          rw [← hv] at b3 hS hd0
          obtain ⟨m, rfl⟩ : ∃ m : Nat, v = (m : Int) := ⟨v.toNat, by omega⟩
          rw [Int.toNat_natCast] at hS
          have HI := Lib.hid (hasI_nat a m (by omega))
          obtain ⟨tb, htb⟩ : ∃ q, q = a.testBit m := ⟨_, rfl⟩
          rw [← htb] at HI hS
          have HS := Lib.hid hS
          have i3 : (0 : Int) ≤ (k2 : Int) := by omega
          have i4 : (k2 : Int) < (p : Int) := by omega
          clear ha hv htb hS hcell2 hcell3 hd0
          cases bb with
          | false =>
            have HF2 : Hid (false = fitTo A d (k2 + 1)) := Lib.hid (by rw [HS.out, ← HF.out]; rfl)
            go_wp2_with fail
            go_quiet ((go_at_call 91; exact (l2Has_any _ _ _ HI.out _).mono (fun _ _ h => ⟨h.1, _, h.2.symm⟩)))
            go_wp2
            go_roundw
            case rel => exact ⟨k2 + 1, false, by omega, by go_num, rfl, HF2, Lib.hid (below_drewN HB.out _)⟩
            case measure => simp [intOf]; omega
          | true =>
            have HF2 : Hid (tb = fitTo A d (k2 + 1)) := Lib.hid (by rw [HS.out, ← HF.out]; rfl)
            go_wp2_with fail
            go_quiet ((go_at_call 91; exact (l2Has_any _ _ _ HI.out _).mono (fun _ _ h => ⟨h.1, _, h.2.symm⟩)))
            go_wp2
            go_roundw
            case rel => exact ⟨k2 + 1, tb, by omega, by go_num, rfl, HF2, Lib.hid (below_drewN HB.out _)⟩
            case measure => simp [intOf]; omega
        · obtain rfl : k2 = p := by omega
          have hdl : d.length = k2 := by rw [HD1.out.1, ← HP.out]
          have HFD : Hid (bb = fitD A d) := Lib.hid (by rw [HF.out, fitD, hdl])
          have b1 := (HB.out.cell (p := ⟨g, o + k * 2 + 1, none⟩) hg).trans HC1.out
          clear hdl
          cases bb with
          | true =>
            have HE := Lib.hid (HHIT.out HFD.out.symm)
            go_wp2_with (go_at_call 94; refine (HBJ.out _).mono ?_; rintro e w3 ⟨rfl, rfl⟩)
            go_roundw
            case rel => exact ⟨k + 1, by omega, by go_num, by rw [HE.out], HB⟩
            case measure => simp [intOf]; omega
          | false =>
            have HE := Lib.hid (HMISS.out HFD.out.symm)
            go_wp2
            go_roundw
            case rel => exact ⟨k + 1, by omega, by go_num, by rw [HE.out], HB⟩
            case measure => simp [intOf]; omega
    · obtain rfl : k = q := by omega
      have HTT : Hid (D.take k = D) := Lib.hid (by rw [HQ.out, List.take_length])
      rw [HTT.out]
      go_wp2_with fail
      refine (HCL.out _ HB.out).mono ?_
      rintro e w3 ⟨rfl, rfl⟩
      go_wp2
      go_ret
      exact ⟨rfl, HB.out⟩
abbrev SApp (x g o : Nat) (v0 v1 v2 vd : Value) (W w : World) : Prop := ((w.cell? ⟨x, 0, none⟩ = some v0 ∧ w.cell? ⟨x, 1, none⟩ = some v1 ∧ w.cell? ⟨x, 2, none⟩ = some v2) ∧ w.cell? ⟨g, o + 1, none⟩ = some vd) ∧ Below W.heap.size W w
theorem SApp.of {x g o : Nat} {v0 v1 v2 vd : Value} {W w : World} (h : SApp x g o v0 v1 v2 vd W W) (hb : Below W.heap.size W w) : SApp x g o v0 v1 v2 vd W w := by
  have k : ∀ {a : Addr} {v : Value}, W.cell? a = some v → w.cell? a = some v := fun {a v} h => (hb.cell (p := a) (block_lt_of_cell h)).trans h
  exact ⟨⟨⟨k h.1.1.1, k h.1.1.2.1, k h.1.1.2.2⟩, k h.1.2⟩, hb⟩
set_option maxRecDepth 50000 in
set_option maxHeartbeats 8000000 in
/-- spec.l7Apply -/
theorem l7Apply_any (P : List (List UInt8)) (Q : List (Int × Int)) (O : List OpM) (hok : sigOk P Q O = true) (k : Nat) (hk : k < O.length) (A : List Nat) (hal : A.length = ar (O.getD k default)) (hA : ∀ i, A.getD i 0 < 65536) (va vb vc vs : Value) (w : World) (h : HasG w va vb vc P Q O) (h1 : Has w vs (ivs (nats A))) :
    Calls Tryz.prog 80 #[.agg #[va, vb, vc], .int .i64 (k : Int), vs] w fun e w' => e = .returned (.int .i64 ((upC (clo P.length (prs Q)) (giveR (O.getD k default).decls A) : Nat) : Int)) ∧ Below w.heap.size w w' := by
  have hokS := (sigOk_parts hok).1
  obtain ⟨p1, p2, p3, p4, _⟩ := okS_parts hokS
  have hlim := lim_clo hokS
  have HUP := Lib.hid (fun W (hW : Below w.heap.size w W) => l3Up_any P Q p1 p2 (by omega) p3 va vb W (h.s.below (Nat.le_refl _) hW))
  obtain ⟨A1, c1, A2, c2, A3, c3, rfl, rfl, rfl, _, _, _, h'⟩ := h.shape
  obtain ⟨g, o, Ad, cd, rfl, _, hg, _, e1, _, _, _, hD, _, _⟩ := op_at h'.o hk
  have HGV := Lib.hid (fun W vu (hW : Below w.heap.size w W) (hu : Has W vu (ivs (nats (clo P.length (prs Q))))) => l7Give_any (clo P.length (prs Q)) hlim (O.getD k default).decls A (by rw [clo_len, hal]; exact declN hok hk) hA vu _ vs W hu (hD.below RD_steady (Nat.le_refl _) hW) (h1.below (Nat.le_refl _) hW))
  obtain ⟨As, cs, rfl, _⟩ := h1.shape rfl
  obtain ⟨sl, hsl⟩ : ∃ q, q = (ivs (nats A)).length := ⟨_, rfl⟩
  rw [← hsl] at HGV ⊢
  obtain ⟨uv, huv⟩ : ∃ q, q = upC (clo P.length (prs Q)) (giveR (O.getD k default).decls A) := ⟨_, rfl⟩
  rw [← huv] at HGV ⊢
  obtain ⟨dl, hdl⟩ : ∃ q, q = (O.getD k default).decls.length := ⟨_, rfl⟩
  rw [← hdl] at HGV e1
  obtain ⟨m1, hm1⟩ : ∃ q, q = P.length := ⟨_, rfl⟩
  obtain ⟨m2, hm2⟩ : ∃ q, q = Q.length := ⟨_, rfl⟩
  obtain ⟨m3, hm3⟩ : ∃ q, q = O.length := ⟨_, rfl⟩
  have i1 : (0 : Int) ≤ (k : Int) := by omega
  have i2 : (k : Int) < (m3 : Int) := by omega
  rw [← hm1, ← hm2] at HUP
  rw [← hm1] at HGV
  rw [← hm1, ← hm2, ← hm3]
  obtain ⟨W, hW⟩ : ∃ W, W = w.alloc (.cells #[.slice A1 m1 c1, .slice A2 m2 c2, .slice (some ⟨g, o, none⟩) m3 c3] 40) := ⟨_, rfl⟩
  have hb0 : Below w.heap.size w W := by rw [hW]; exact (Below.refl _ _).alloc (Nat.le_refl _) _
  have hX0 : SApp w.heap.size g (o + k * 5) (.slice A1 m1 c1) (.slice A2 m2 c2) (.slice (some ⟨g, o, none⟩) m3 c3) (.slice Ad dl cd) W W := by
    refine ⟨⟨?_, (hb0.cell (p := ⟨g, o + k * 5 + 1, none⟩) hg).trans e1⟩, Below.refl _ _⟩
    rw [hW]
    exact tsl.box3 (termt.heap_at _ _ _ rfl)
  have HB0 := Lib.hid hb0
  have HX0 := Lib.hid hX0
  clear h h' h1 hA hal hokS p1 p2 p3 p4 hlim e1 hD hsl huv hdl hm1 hm2 hm3 hb0 hX0 hok hk hg
  go_enter Tryz.func80, Tryz.ntmps80
  go_wp2_with fail
  rw [← hW]
  clear hW
  refine wp_region_noPanic ?_
  refine wp_region_held_drew (S := (SApp w.heap.size g (o + k * 5) (.slice A1 m1 c1) (.slice A2 m2 c2) (.slice (some ⟨g, o, none⟩) m3 c3) (.slice Ad dl cd) W)) (by kernel_rfl) ?_ (fun hHd0 => ?_)
  · exact HX0.out.of (by first | exact (Below.refl _ _).drew | exact HB1.out | exact HB2.out)
  refine wpAnyH_take (i := 0) (v := ?_) rfl (by kernel_rfl) (by kernel_rfl) (by kernel_rfl) (fun _ _ _ h => h) (Or.inl ⟨by rfl, ?_⟩) (by with_reducible assumption) ?_
  rotate_left
  · intro w hSw; (try dsimp only at hSw); go_simp <;> with_reducible rfl
  (try simp only [Act.put]); (try simp only [List.setIfInBounds_toArray]); (try simp only [List.set_cons_succ, List.set_cons_zero])
  refine wpAnyH_take (i := 1) (v := ?_) rfl (by kernel_rfl) (by kernel_rfl) (by kernel_rfl) (fun _ _ _ h => h) (Or.inl ⟨by rfl, ?_⟩) (by with_reducible assumption) ?_
  rotate_left
  · intro w hSw; (try dsimp only at hSw); go_simp <;> with_reducible rfl
  (try simp only [Act.put]); (try simp only [List.setIfInBounds_toArray]); (try simp only [List.set_cons_succ, List.set_cons_zero])
  refine wpAnyH_take (i := 3) (v := ?_) rfl (by kernel_rfl) (by kernel_rfl) (by kernel_rfl) (fun _ _ _ h => h) (Or.inl ⟨by rfl, ?_⟩) (by with_reducible assumption) ?_
  rotate_left
  · intro w hSw; (try dsimp only at hSw); go_simp <;> with_reducible rfl
  (try simp only [Act.put]); (try simp only [List.setIfInBounds_toArray]); (try simp only [List.set_cons_succ, List.set_cons_zero])
  refine wpAnyH_take (i := 4) (v := ?_) rfl (by kernel_rfl) (by kernel_rfl) (by kernel_rfl) (fun _ _ _ h => h) (Or.inl ⟨by rfl, ?_⟩) (by with_reducible assumption) ?_
  rotate_left
  · intro w hSw; (try dsimp only at hSw); go_simp <;> with_reducible rfl
  (try simp only [Act.put]); (try simp only [List.setIfInBounds_toArray]); (try simp only [List.set_cons_succ, List.set_cons_zero])
  refine wpAnyH_take (i := 5) (v := ?_) rfl (by kernel_rfl) (by kernel_rfl) (by kernel_rfl) (fun _ _ _ h => h) (Or.inl ⟨by rfl, ?_⟩) (by with_reducible assumption) ?_
  rotate_left
  · intro w hSw; (try dsimp only at hSw); go_simp <;> with_reducible rfl
  (try simp only [Act.put]); (try simp only [List.setIfInBounds_toArray]); (try simp only [List.set_cons_succ, List.set_cons_zero])
  refine wpAnyH_take (i := 6) (v := ?_) rfl (by kernel_rfl) (by kernel_rfl) (by kernel_rfl) (fun _ _ _ h => h) (Or.inl ⟨by rfl, ?_⟩) (by with_reducible assumption) ?_
  rotate_left
  · intro w hSw; (try dsimp only at hSw); go_simp <;> with_reducible rfl
  (try simp only [Act.put]); (try simp only [List.setIfInBounds_toArray]); (try simp only [List.set_cons_succ, List.set_cons_zero])
  refine wpAnyH_take (i := 7) (v := ?_) rfl (by kernel_rfl) (by kernel_rfl) (by kernel_rfl) (fun _ _ _ h => h) (Or.inl ⟨by rfl, ?_⟩) (by with_reducible assumption) ?_
  rotate_left
  · intro w hSw; (try dsimp only at hSw); go_simp <;> with_reducible rfl
  (try simp only [Act.put]); (try simp only [List.setIfInBounds_toArray]); (try simp only [List.set_cons_succ, List.set_cons_zero])
  refine wpAnyH_take (i := 8) (v := ?_) rfl (by kernel_rfl) (by kernel_rfl) (by kernel_rfl) (fun _ _ _ h => h) (Or.inl ⟨by rfl, ?_⟩) (by with_reducible assumption) ?_
  rotate_left
  · intro w hSw; (try dsimp only at hSw); go_simp <;> with_reducible rfl
  (try simp only [Act.put]); (try simp only [List.setIfInBounds_toArray]); (try simp only [List.set_cons_succ, List.set_cons_zero])
  refine wpAnyH_take (i := 9) (v := ?_) rfl (by kernel_rfl) (by kernel_rfl) (by kernel_rfl) (fun _ _ _ h => h) (Or.inl ⟨by rfl, ?_⟩) (by with_reducible assumption) ?_
  rotate_left
  · intro w hSw; (try dsimp only at hSw); go_simp <;> with_reducible rfl
  (try simp only [Act.put]); (try simp only [List.setIfInBounds_toArray]); (try simp only [List.set_cons_succ, List.set_cons_zero])
  refine wpAnyH_ready (rs := [2]) (by kernel_rfl) (by simp) ?_
  refine AllReadyH.cons (o := _) rfl (fun K hK => ?_) ?_
  · (go_simp; refine (HUP.out W.drew HB0.out.drew).mono ?_; rintro e w1 ⟨uv1, rfl, hown, hb1⟩; obtain ⟨Au, cu, rfl, _⟩ := own_slice hown; have HU := Lib.hid (Has.of_own hown); have HB1 : Hid (Below W.heap.size W w1) := Lib.hid ((Below.refl _ _).drew.trans hb1); have HB1w : Hid (Below w.heap.size w w1) := Lib.hid (HB0.out.trans (HB1.out.mono HB0.out.size)); clear hown hb1; (try dsimp only))
    refine hK.out _ _ ?_ (fun hHd1 => ?_)
    · (try dsimp only); exact HX0.out.of (by first | exact (Below.refl _ _).drew | exact HB1.out | exact HB2.out)
    clear hK K hHd0
    (try simp only [Act.put]); (try simp only [List.setIfInBounds_toArray]); (try simp only [List.set_cons_succ, List.set_cons_zero])
    refine wpAnyH_ready (rs := [10]) (by kernel_rfl) (by simp) ?_
    refine AllReadyH.cons (o := _) rfl (fun K hK => ?_) ?_
    · (go_simp; refine (HGV.out w1 _ HB1w.out HU.out).mono ?_; rintro e w2 ⟨rfl, hb2⟩; have HB2 : Hid (Below W.heap.size W w2) := Lib.hid (HB1.out.trans (hb2.mono HB1.out.size)); clear hb2; (try dsimp only))
      refine hK.out _ _ ?_ (fun hHd2 => ?_)
      · (try dsimp only); exact HX0.out.of (by first | exact (Below.refl _ _).drew | exact HB1.out | exact HB2.out)
      clear hK K hHd1
      (try simp only [Act.put]); (try simp only [List.setIfInBounds_toArray]); (try simp only [List.set_cons_succ, List.set_cons_zero])
      refine wpAnyH_ready (rs := [11]) (by kernel_rfl) (by simp) ?_
      refine AllReadyH.cons (o := _) rfl (fun K hK => ?_) ?_
      · go_simp
        refine hK.out _ _ ?_ (fun hHd3 => ?_)
        · (try dsimp only); exact HX0.out.of (by first | exact (Below.refl _ _).drew | exact HB1.out | exact HB2.out)
        clear hK K hHd2
        (try simp only [Act.put]); (try simp only [List.setIfInBounds_toArray]); (try simp only [List.set_cons_succ, List.set_cons_zero])
        refine wpAnyH_done (by kernel_rfl) ?_ _
        refine NoPanic.normal ?_
        go_wp2
        go_ret
        exact ⟨rfl, HB0.out.trans (HB2.out.mono HB0.out.size)⟩
      exact AllReadyH.nil
    exact AllReadyH.nil
  exact AllReadyH.nil
end Go.Proofs.YtjejdcehlckfhaaGreat.tsp
