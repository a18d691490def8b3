/-
  THE MODEL's l7Bag: arguments in any order.
-/
import Derived.Test.YtjejdcehlckfhaaGreatTsq
namespace Go.Proofs.YtjejdcehlckfhaaGreat.tsr
open Go.ChangeShapes Go.WideShapes Go.ChangeAt Go.RowKit
open mem split strl subs sortn setm sets sortm sortp sorti sortf sortu sortg rowl sigm sigs sigk trm tsa tsm tsi tsj tsk tsn tsp tsq

theorem xor_i64 (a b : Nat) (ha : a < 65536) (hb : b < 65536) : bits .xor .i64 (a : Int) (b : Int) = ((a ^^^ b : Nat) : Int) := by
  have hx : a ^^^ b < 2 ^ 16 := Nat.xor_lt_two_pow ha hb
  show IntKind.i64.wrap ((BitVec.ofInt 64 (a : Int) ^^^ BitVec.ofInt 64 (b : Int)).toNat : Nat) = _
  simp only [BitVec.ofInt_natCast, BitVec.toNat_xor, BitVec.toNat_ofNat]
  rw [Nat.mod_eq_of_lt (show a < 2 ^ 64 by omega), Nat.mod_eq_of_lt (show b < 2 ^ 64 by omega)]
  exact wraps_i64 _ (Int.natCast_nonneg _) (by have : ((a ^^^ b : Nat) : Int) < 2 ^ 16 := by exact_mod_cast hx
                                               omega)
/-- entries below m are filled in; the entry m holds c -/
def BagT (U : List Nat) (D : List (List Int × Int)) (A : List Nat) (z m c : Nat) (T : List Nat) : Prop :=
  T.length = z ∧ (∀ x, 0 < x → x < m → T.getD x 0 = V true U D A x) ∧ T.getD m 0 = c ∧ ∀ x, m < x → T.getD x 0 = 0
section
variable {U : List Nat} {D : List (List Int × Int)} {A : List Nat} {z m c : Nat} {T : List Nat}
theorem BagT.zero (z : Nat) : BagT U D A z 1 0 (List.replicate z 0) := by
  have h : ∀ x, (List.replicate z 0).getD x 0 = 0 := fun x => by
    rw [List.getD_eq_getElem?_getD, List.getElem?_replicate]
    split <;> rfl
  exact ⟨by simp, fun x h0 h1 => by omega, h 1, fun x _ => h x⟩
theorem BagT.store (h : BagT U D A z m c T) (hm : m < z) (c' : Nat) : BagT U D A z m c' (T.set m c') := by
  have hx : m < T.length := by rw [h.1]; exact hm
  refine ⟨by rw [List.length_set]; exact h.1, fun x h0 h1 => ?_, ?_, fun x h1 => ?_⟩
  · rw [getD_set _ _ hx, if_neg (by omega)]; exact h.2.1 x h0 h1
  · rw [getD_set _ _ hx, if_pos rfl]
  · rw [getD_set _ _ hx, if_neg (by omega)]; exact h.2.2.2 x h1
theorem BagT.next (h : BagT U D A z m c T) (hc : c = V true U D A m) : BagT U D A z (m + 1) 0 T := by
  refine ⟨h.1, fun x h0 h1 => ?_, h.2.2.2 _ (by omega), fun x h1 => h.2.2.2 x (by omega)⟩
  by_cases e : x = m
  · subst e; rw [h.2.2.1, hc]
  · exact h.2.1 x h0 (by omega)
end
/-- what the first i places give for a group of one -/
def sgl (A : List Nat) (m i : Nat) : Nat := match oneOf m with | some j => if j < i then A.getD j 0 else 0 | none => 0
theorem oneOf_pow {m j : Nat} (h : oneOf m = some j) : m = 2 ^ j ∧ j < 16 := by
  unfold oneOf at h
  rw [List.find?_range_eq_some] at h
  exact ⟨by simpa using h.1, List.mem_range.1 h.2.1⟩
theorem oneOf_of {i : Nat} (h : i < 16) : oneOf (2 ^ i) = some i := by
  unfold oneOf
  rw [List.find?_range_eq_some]
  refine ⟨by simp, List.mem_range.2 h, fun j hj => ?_⟩
  have := Nat.pow_lt_pow_right (a := 2) (by decide) hj
  simp; omega
theorem sgl_hit (A : List Nat) {m i : Nat} (h : i < 16) (e : m = 2 ^ i) : sgl A m (i + 1) = A.getD i 0 := by
  rw [e, sgl, oneOf_of h]
  simp
theorem sgl_miss (A : List Nat) {m i : Nat} (e : m ≠ 2 ^ i) : sgl A m (i + 1) = sgl A m i := by
  unfold sgl
  cases ho : oneOf m with
  | none => rfl
  | some j =>
    obtain ⟨h1, _⟩ := oneOf_pow ho
    have : j ≠ i := fun h => e (h ▸ h1)
    by_cases hj : j < i
    · simp only [if_pos hj, if_pos (show j < i + 1 by omega)]
    · simp only [if_neg hj, if_neg (show ¬ j < i + 1 by omega)]
theorem sgl_zero (A : List Nat) (m : Nat) : sgl A m 0 = 0 := by
  unfold sgl
  cases oneOf m <;> simp
/-- what one part and the rest give, closed -/
def bagF (U : List Nat) (D : List (List Int × Int)) (A : List Nat) (m l : Nat) : Nat := upC U (giveR D [V true U D A l, V true U D A (rest m l)])
theorem leftsC_true (m : Nat) : leftsC true m = lefts m := by simp [leftsC]
/-- all parts together -/
theorem bag_all {U : List Nat} {D : List (List Int × Int)} {A : List Nat} {p m : Nat} (hp : ∀ j, m = 2 ^ j → j < p) (h1 : ∀ i, i < 16 → V true U D A (2 ^ i) = A.getD i 0) (hm : ∀ g, oneOf g = none → V true U D A g = upC U (orL (fun l => giveR D [V true U D A l, V true U D A (rest g l)]) (leftsC true g))) :
    sgl A m p ||| orL (bagF U D A m) (lefts m) = V true U D A m := by
  cases ho : oneOf m with
  | none =>
    have e : sgl A m p = 0 := by unfold sgl; rw [ho]
    rw [e, Nat.zero_or, hm m ho, upC_orL, leftsC_true]
    rfl
  | some j =>
    obtain ⟨h2, h3⟩ := oneOf_pow ho
    have e : sgl A m p = A.getD j 0 := by unfold sgl; rw [ho]; simp only [if_pos (hp j h2)]
    rw [e, h2, lefts_pow h3, h1 j h3]
    simp [orL]
set_option maxRecDepth 50000 in
set_option maxHeartbeats 8000000 in
/-- spec.l7Bag -/
theorem l7Bag_any (P : List (List UInt8)) (Q : List (Int × Int)) (O : List OpM) (hok : sigOk P Q O = true) (k : Nat) (hk : k < O.length) (A : List Nat) (har : ar (O.getD k default) = 2) (h2 : 2 ≤ A.length) (h7 : A.length ≤ 7) (hA : ∀ i, A.getD i 0 < 2 ^ P.length) (va vb vc vs : Value) (w : World) (h : HasG w va vb vc P Q O) (h1 : Has w vs (ivs (nats A))) :
    Calls Tryz.prog 78 #[.agg #[va, vb, vc], .int .i64 (k : Int), vs] w fun e w' => e = .returned (.int .i64 ((V true (clo P.length (prs Q)) (O.getD k default).decls A (2 ^ A.length - 1) : Nat) : Int)) ∧ Below w.heap.size w w' := by
  have hokS := (sigOk_parts hok).1
  obtain ⟨p1, p2, p3, p4, _⟩ := okS_parts hokS
  have hlim := lim_clo hokS
  have hcl := clo_len P.length (prs Q)
  have hpn := pow8 p2
  have HUP := Lib.hid (fun W (hW : Below w.heap.size w W) => l3Up_any P Q p1 p2 (by omega) p3 va vb W (h.s.below (Nat.le_refl _) hW))
  obtain ⟨A1, c1, A2, c2, A3, c3, rfl, rfl, rfl, _, _, _, h'⟩ := h.shape
  obtain ⟨g, o, Ad, cd, rfl, _, hg, _, e1, _, _, _, hD, _, _⟩ := op_at h'.o hk
  have hDN : DeclN (clo P.length (prs Q)).length 2 (O.getD k default).decls := by rw [hcl, ← har]; exact declN hok hk
  have HGV := Lib.hid (fun W vu (x y : Nat) (hx : x < 65536) (hy : y < 65536) va (hW : Below w.heap.size w W) (hu : Has W vu (ivs (nats (clo P.length (prs Q))))) (h1 : Has W va (ivs (nats [x, y]))) => l7Give_any (clo P.length (prs Q)) hlim (O.getD k default).decls [x, y] hDN (fun i => by
    match i with
    | 0 => exact hx
    | 1 => exact hy
    | i + 2 => simp) vu _ va W hu (hD.below RD_steady (Nat.le_refl _) hW) h1)
  have hAc : ∀ i, A.getD i 0 < 2 ^ (clo P.length (prs Q)).length := fun i => by rw [hcl]; exact hA i
  have HVL := Lib.hid (fun g => V_lt true (clo P.length (prs Q)) (O.getD k default).decls A hlim hAc g)
  have HV1 := Lib.hid (fun i (h : i < 16) => V_one true (clo P.length (prs Q)) (O.getD k default).decls A h)
  have HVM := Lib.hid (fun g (h : oneOf g = none) => V_more true (clo P.length (prs Q)) (O.getD k default).decls A h)
  have HGL := Lib.hid (fun x y => Nat.lt_of_lt_of_le (upC_lt hlim (giveR (O.getD k default).decls [x, y])) (pow8 hlim.1))
  rw [hcl] at HVL
  obtain ⟨U, hU⟩ : ∃ q, q = clo P.length (prs Q) := ⟨_, rfl⟩
  rw [← hU] at HGV HVL HV1 HVM HGL HUP ⊢
  obtain ⟨DD, hDD⟩ : ∃ q, q = (O.getD k default).decls := ⟨_, rfl⟩
  rw [← hDD] at HGV HVL HV1 HVM HGL e1 ⊢
  obtain ⟨p, hp⟩ : ∃ q, q = A.length := ⟨_, rfl⟩
  obtain ⟨As, cs, rfl, h1⟩ := h1.shape (n := p) (by rw [ivs_len, nats_len, hp])
  have hpl := h1.len.2
  have HAS := Lib.hid h1
  have HP := Lib.hid hp
  have HAL := Lib.hid hA
  rw [← hp] at h2 h7 ⊢
  have hz7 : 2 ^ p ≤ 128 := Nat.pow_le_pow_right (n := 2) (j := 7) (by decide) h7
  have hz1 : 2 ^ 2 ≤ 2 ^ p := Nat.pow_le_pow_right (by decide) h2
  have HBP := Lib.hid (fun W => l2Bit_any p (by omega) W)
  have HPW : Hid (∀ m j, m = 2 ^ j → m < 2 ^ p → j < p) := Lib.hid (fun m j e h => by rw [e] at h; exact (Nat.pow_lt_pow_iff_right (by decide)).1 h)
  obtain ⟨z, hz⟩ : ∃ q, q = 2 ^ p := ⟨_, rfl⟩
  rw [← hz] at hz7 hz1 HBP HPW ⊢
  obtain ⟨vr, hvr⟩ : ∃ q, q = V true U DD A (z - 1) := ⟨_, rfl⟩
  have HVR := Lib.hid hvr
  rw [← hvr]
  obtain ⟨dl, hdl⟩ : ∃ q, q = DD.length := ⟨_, rfl⟩
  rw [← hdl] at HGV e1
  obtain ⟨m1, hm1⟩ : ∃ q, q = P.length := ⟨_, rfl⟩
  obtain ⟨m2, hm2⟩ : ∃ q, q = Q.length := ⟨_, rfl⟩
  obtain ⟨m3, hm3⟩ : ∃ q, q = O.length := ⟨_, rfl⟩
  have i1 : (0 : Int) ≤ (k : Int) := by omega
  have i2 : (k : Int) < (m3 : Int) := by omega
  rw [← hm1] at hpn HVL HAL
  rw [← hm1, ← hm2] at HUP
  rw [← hm1, ← hm2, ← hm3]
  obtain ⟨W, hW⟩ : ∃ W, W = w.alloc (.cells #[.slice A1 m1 c1, .slice A2 m2 c2, .slice (some ⟨g, o, none⟩) m3 c3] 40) := ⟨_, rfl⟩
  have hb0 : Below w.heap.size w W := by rw [hW]; exact (Below.refl _ _).alloc (Nat.le_refl _) _
  have hX0 : SApp w.heap.size g (o + k * 5) (.slice A1 m1 c1) (.slice A2 m2 c2) (.slice (some ⟨g, o, none⟩) m3 c3) (.slice Ad dl cd) W W := by
    refine ⟨⟨?_, (hb0.cell (p := ⟨g, o + k * 5 + 1, none⟩) hg).trans e1⟩, Below.refl _ _⟩
    rw [hW]
    exact tsl.box3 (termt.heap_at _ _ _ rfl)
  have hzW : W.heap.size = w.heap.size + 1 := by rw [hW]; simp
  have HB0 := Lib.hid hb0
  have HX0 := Lib.hid hX0
  have HZ := Lib.hid hzW
  obtain ⟨j0, hij, hy0, hy1, hy2⟩ := info_parts info_int
  obtain ⟨⟨z0, z1, z2⟩, z3⟩ := hX0.1
  clear h h' h1 hA hokS p1 p2 p3 p4 hlim hcl e1 hD hDN hAc hvr hdl hm1 hm2 hm3 hb0 hX0 hok hk hU hDD hp hzW hz har z3
  go_enter Tryz.func78, Tryz.ntmps78
  go_wp2_with fail
  rw [← hW]
  clear hW
  go_wp2_with (first
    | (go_at_call 77; refine (HUP.out W HB0.out).mono ?_; rintro e w1 ⟨uv1, rfl, hown, hb1⟩; obtain ⟨Au, cu, rfl, _⟩ := own_slice hown; have HU := Lib.hid (Has.of_own hown); have HB1 : Hid (Below W.heap.size W w1) := Lib.hid hb1; have HB1w : Hid (Below w.heap.size w w1) := Lib.hid (HB0.out.trans (HB1.out.mono HB0.out.size)); clear hown hb1 z0 z1 z2)
    | (go_at_call 94; refine (HBP.out _).mono ?_; rintro e w0 ⟨rfl, rfl⟩)
    | (at_make; refine wpList_make_full _ rfl _ _ 88 rfl w1.heap.size 3 j0 (.int .i64 0) 1 Tryz.underlying88 hij hy0 hy1 _ _ _ _ z rfl rfl rfl rfl (by rw [hy2]; omega) (by unfold maxLen; omega) (Nat.le_refl _) ?_))
  intro w2 hown hgrow
  rw [zeros_ivs] at hown
  obtain ⟨gt, hgt⟩ : ∃ q, q = w1.heap.size := ⟨_, rfl⟩
  rw [← hgt] at hown ⊢
  have hb2 : Below gt w1 w2 := by rw [hgt]; exact (Below.refl w1.heap.size w1).grown hgrow (Nat.le_refl _) (by intro k hk; cases hk)
  have HB2 := Lib.hid hb2
  have HOWN := Lib.hid hown
  have HGT := Lib.hid hgt
  have hgt1 : w.heap.size + 1 ≤ gt := by rw [hgt]; have := HB1.out.size; rw [HZ.out] at this; exact this
  have HX1 := Lib.hid (HX0.out.of HB1.out)
  have hgg : g < gt := by rw [hgt]; exact block_lt_of_cell HX1.out.1.2
  have HSX : Hid (∀ wr, Below gt w1 wr → (wr.cell? ⟨w.heap.size, 0, none⟩ = some (.slice A1 m1 c1) ∧ wr.cell? ⟨w.heap.size, 1, none⟩ = some (.slice A2 m2 c2) ∧ wr.cell? ⟨w.heap.size, 2, none⟩ = some (.slice (some ⟨g, o, none⟩) m3 c3)) ∧ wr.cell? ⟨g, o + k * 5 + 1, none⟩ = some (.slice Ad dl cd)) := Lib.hid (fun wr hb => by
    have k1 : ∀ y, wr.cell? ⟨w.heap.size, y, none⟩ = w1.cell? ⟨w.heap.size, y, none⟩ := fun y => hb.cell (p := ⟨w.heap.size, y, none⟩) (by show w.heap.size < gt; omega)
    have k2 : ∀ y, wr.cell? ⟨g, y, none⟩ = w1.cell? ⟨g, y, none⟩ := fun y => hb.cell (p := ⟨g, y, none⟩) hgg
    rw [k1, k1, k1, k2]
    exact HX1.out.1)
  have HBW : Hid (∀ wr, Below gt w1 wr → Below w.heap.size w wr) := Lib.hid (fun wr hb => HB1w.out.trans (hb.mono (by omega)))
  have HUA : Hid (∀ wr, Below gt w1 wr → Has wr (.slice Au m1 cu) (ivs (nats U))) := Lib.hid (fun wr hb => HU.out.below (Nat.le_refl _) (HGT.out ▸ hb))
  clear hown hgrow hb2 hgt
  go_wp2
  go_loopw [10] (fun v10 wr => ∃ (m : Nat) (T : List Nat), v10 = .int .i64 m ∧ 1 ≤ m ∧ m ≤ z ∧ Hid (BagT U DD A z m 0 T) ∧ Hid (wr.ownsRow gt 3 1 (.slice (some ⟨gt, 0, none⟩) z z) z (ivs (nats T))) ∧ Hid (Below gt w1 wr)) (fun v _ => z - (intOf v).toNat)
  case atStart => exact ⟨1, List.replicate z 0, rfl, Nat.le_refl _, by omega, Lib.hid (BagT.zero z), HOWN, HB2⟩
  case round =>
    obtain ⟨m, T, rfl, hm1, hmz, HT, HO, HB⟩ := hrel
    by_cases hlt : m < z
    · have d1 : decide ((m : Int) < (z : Int)) = true := decide_eq_true (by omega)
      have hm16 : m < 128 := by omega
      go_wp2_with (go_at_call 94; refine (HBP.out _).mono ?_; rintro e w0 ⟨rfl, rfl⟩)
      go_loopw [11] (fun v11 wr => ∃ (i c : Nat) (T : List Nat), v11 = .int .i64 i ∧ i ≤ p ∧ Hid (c = sgl A m i) ∧ Hid (BagT U DD A z m c T) ∧ Hid (wr.ownsRow gt 3 1 (.slice (some ⟨gt, 0, none⟩) z z) z (ivs (nats T))) ∧ Hid (Below gt w1 wr)) (fun v _ => p - (intOf v).toNat)
      case atStart => exact ⟨0, 0, T, rfl, Nat.zero_le _, Lib.hid (sgl_zero A m).symm, HT, HO, HB⟩
      case round =>
        clear HT HO HB
        obtain ⟨i, c, T, rfl, hip, HC, HT, HO, HB⟩ := hrel
        by_cases hil : i < p
        · have HBI := Lib.hid (fun W => l2Bit_any i (by omega) W)
          have HSH := Lib.hid (fun e => sgl_hit A (m := m) (i := i) (by omega) e)
          have HSM := Lib.hid (fun e => sgl_miss A (m := m) (i := i) e)
          obtain ⟨y, hy⟩ : ∃ y, y = 2 ^ i := ⟨_, rfl⟩
          rw [← hy] at HBI HSH HSM
          clear hy
          by_cases hmy : m = y
          · obtain ⟨ga, oa, rfl, hga, hca⟩ := (HAS.out.below (Nat.le_refl _) (HBW.out _ HB.out)).cellAt (j := i) hil
            rw [natsC (by have := HP.out; omega)] at hca
            obtain ⟨q1, q2⟩ := in_cell HO.out hlt
            have HC2 := Lib.hid (HSH.out hmy)
            obtain ⟨av, hav⟩ : ∃ q, q = A.getD i 0 := ⟨_, rfl⟩
            rw [← hav] at hca HC2
            have HT2 := Lib.hid (HT.out.store hlt av)
            have HO2 : Hid ((wr.setCell ⟨gt, m, none⟩ (.int .i64 (av : Int))).ownsRow gt 3 1 (.slice (some ⟨gt, 0, none⟩) z z) z (ivs (nats (T.set m av)))) := Lib.hid (by
              have h9 := setCell_own HO.out m (.int .i64 (av : Int))
              rw [ivs_set, nats_set] at h9
              exact h9)
            have HB3 := Lib.hid (HB.out.setCell (p := ⟨gt, m, none⟩) (Nat.le_refl _) (.int .i64 (av : Int)))
            have j1 : (0 : Int) ≤ (i : Int) := by omega
            have j2 : (i : Int) < (p : Int) := by omega
            have j3 : (0 : Int) ≤ (m : Int) := by omega
            have j4 : (m : Int) < (z : Int) := by omega
            subst hmy
            clear hav
            go_wp2_with (go_at_call 94; refine (HBI.out _).mono ?_; rintro e w0 ⟨rfl, rfl⟩)
            go_roundw
            case rel => exact ⟨i + 1, av, _, by go_num, by omega, Lib.hid HC2.out.symm, HT2, HO2, HB3⟩
            case measure => simp [intOf]; omega
          · have HC2 := Lib.hid (HC.out.trans (HSM.out hmy).symm)
            have d3 : ((m : Int) == (y : Int)) = false := by simp; omega
            have d4 : decide ((m : Int) = (y : Int)) = false := decide_eq_false (by omega)
            go_wp2_with (go_at_call 94; refine (HBI.out _).mono ?_; rintro e w0 ⟨rfl, rfl⟩)
            go_roundw
            case rel => exact ⟨i + 1, c, T, by go_num, by omega, HC2, HT, HO, HB⟩
            case measure => simp [intOf]; omega
        · obtain rfl : i = p := by omega
          have hfst : m &&& ((m - 1) &&& m) = (m - 1) &&& m := by rw [Nat.and_comm (m - 1) m, ← Nat.and_assoc, Nat.and_self]
          have hle : (m - 1) &&& m ≤ m - 1 := Nat.and_le_left
          have hba := bag_all (U := U) (D := DD) (A := A) (p := i) (m := m) (fun j e => HPW.out m j e hlt) HV1.out HVM.out
          rw [← HC.out, lefts_from] at hba
          have hs1 : bits .and .i64 ((m : Int) - 1) (m : Int) = (((m - 1) &&& m : Nat) : Int) := by
            have := and_i64 (m - 1) m (by omega) (by omega)
            rw [show (((m - 1 : Nat)) : Int) = (m : Int) - 1 by omega] at this
            exact this
          have hw1 : IntKind.i64.wrap ((m : Int) - 1) = (m : Int) - 1 := wraps_i64 _ (by omega) (by omega)
          have HFST := Lib.hid (And.intro hfst hba)
          obtain ⟨l0, hl0⟩ : ∃ l0, l0 = (m - 1) &&& m := ⟨_, rfl⟩
          rw [← hl0] at hs1 HFST hle
          clear hl0 hfst hba hil
          have hl0m : l0 < m := by omega
          go_wp2
          go_loopw [12] (fun v12 wr => ∃ (l c : Nat) (T : List Nat), v12 = .int .i64 l ∧ l < m ∧ Hid (m &&& l = l ∧ c ||| orL (bagF U DD A m) (leftsFrom m l) = V true U DD A m) ∧ Hid (BagT U DD A z m c T) ∧ Hid (wr.ownsRow gt 3 1 (.slice (some ⟨gt, 0, none⟩) z z) z (ivs (nats T))) ∧ Hid (Below gt w1 wr)) (fun v _ => (intOf v).toNat)
          case atStart => exact ⟨l0, c, T, rfl, hl0m, HFST, HT, HO, HB⟩
          case round =>
            clear HT HO HB HFST
            obtain ⟨l, c, T, rfl, hlm, HI, HT, HO, HB⟩ := hrel
            by_cases hl0 : l = 0
            · subst hl0
              have HT2 : Hid (BagT U DD A z (m + 1) 0 T) := Lib.hid (HT.out.next (by have := HI.out.2; rw [leftsFrom_zero] at this; simpa [orL] using this))
              go_wp2
              go_roundw
              case rel => exact ⟨m + 1, T, by go_num, by omega, by omega, HT2, HO, HB⟩
              case measure => simp [intOf]; omega
            · have hr1 := rest_lt HI.out.1 (by omega)
              have hr2 := rest_pos HI.out.1 hlm
              have hxr : bits .xor .i64 (m : Int) (l : Int) = ((rest m l : Nat) : Int) := xor_i64 m l (by omega) (by omega)
              have hs2 : bits .and .i64 ((l : Int) - 1) (m : Int) = (((l - 1) &&& m : Nat) : Int) := by
                have := and_i64 (l - 1) m (by omega) (by omega)
                rw [show (((l - 1 : Nat)) : Int) = (l : Int) - 1 by omega] at this
                exact this
              have hw2 : IntKind.i64.wrap ((l : Int) - 1) = (l : Int) - 1 := wraps_i64 _ (by omega) (by omega)
              have hle2 : (l - 1) &&& m ≤ l - 1 := Nat.and_le_left
              have hn0 : m &&& ((l - 1) &&& m) = (l - 1) &&& m := by rw [Nat.and_comm (l - 1) m, ← Nat.and_assoc, Nat.and_self]
              have hn1 : (c ||| bagF U DD A m l) ||| orL (bagF U DD A m) (leftsFrom m ((l - 1) &&& m)) = V true U DD A m := by
                have := HI.out.2
                rw [leftsFrom_cons m l hl0, orL_cons] at this
                rw [Nat.or_assoc]; exact this
              have hbf : bagF U DD A m l = upC U (giveR DD [V true U DD A l, V true U DD A (rest m l)]) := rfl
              obtain ⟨l2, hl2⟩ : ∃ l2, l2 = (l - 1) &&& m := ⟨_, rfl⟩
              rw [← hl2] at hs2 hle2 hn0 hn1
              obtain ⟨rr, hrr⟩ : ∃ rr, rr = rest m l := ⟨_, rfl⟩
              rw [← hrr] at hr1 hr2 hxr hbf
              obtain ⟨q1, f1⟩ := in_cell HO.out hlt
              obtain ⟨q2, _⟩ := in_cell HO.out (show l < z by omega)
              obtain ⟨q3, _⟩ := in_cell HO.out (show rr < z by omega)
              rw [HT.out.2.2.1] at q1
              rw [HT.out.2.1 l (by omega) hlm] at q2
              rw [HT.out.2.1 rr hr2 hr1] at q3
              have hv2 := HVL.out l
              have hv3 := HVL.out rr
              have hcm : c ≤ V true U DD A m := by rw [← HI.out.2]; exact Nat.left_le_or
              have hvm := HVL.out m
              obtain ⟨a2, ha2⟩ : ∃ q, q = V true U DD A l := ⟨_, rfl⟩
              obtain ⟨a3, ha3⟩ : ∃ q, q = V true U DD A rr := ⟨_, rfl⟩
              rw [← ha2] at q2 hv2 hbf
              rw [← ha3] at q3 hv3 hbf
              have HGC := Lib.hid (fun W vu va hW hu h1 => HGV.out W vu a2 a3 (by omega) (by omega) va hW hu h1)
              have hul := HGL.out a2 a3
              obtain ⟨gv, hgv⟩ : ∃ q, q = upC U (giveR DD [a2, a3]) := ⟨_, rfl⟩
              rw [← hgv] at HGC hbf hul
              rw [hbf] at hn1
              have hor := or_i64 c gv (by omega) (by omega)
              obtain ⟨cn, hcne⟩ : ∃ q, q = c ||| gv := ⟨_, rfl⟩
              rw [← hcne] at hor hn1
              have HN := Lib.hid (And.intro hn0 hn1)
              have HT2 := Lib.hid (HT.out.store hlt cn)
              have HS : Hid (SChn w.heap.size g (o + k * 5) gt l rr (.slice A1 m1 c1) (.slice A2 m2 c2) (.slice (some ⟨g, o, none⟩) m3 c3) (.slice Ad dl cd) a2 a3 wr) := Lib.hid ⟨HSX.out wr HB.out, q2, q3⟩
              have HBR := Lib.hid (HBW.out wr HB.out)
              have HUR := Lib.hid (HUA.out wr HB.out)
              have hsr : gt < wr.heap.size := block_lt_of_cell q1
              have j1 : (0 : Int) ≤ (m : Int) := by omega
              have j2 : (m : Int) < (z : Int) := by omega
              have j3 : (0 : Int) ≤ (l : Int) := by omega
              have j4 : (l : Int) < (z : Int) := by omega
              have j5 : (0 : Int) ≤ (rr : Int) := by omega
              have j6 : (rr : Int) < (z : Int) := by omega
              have hn12 : m ≠ l := by omega
              have hn13 : m ≠ rr := by omega
              have d5 : decide ((l : Int) > 0) = true := decide_eq_true (by omega)
              have hmid : ∀ ob, Below wr.heap.size wr (wr.alloc ob).drew := fun ob => ((Below.refl _ _).alloc (Nat.le_refl _) ob).drew
              have HMID := Lib.hid hmid
              have q1a : ∀ ob, (wr.alloc ob).drew.cell? ⟨gt, m, none⟩ = some (.int .i64 (c : Int)) := fun ob => ((hmid ob).cell (p := ⟨gt, m, none⟩) hsr).trans q1
              have hxgt : w.heap.size ≠ gt := by omega
              have hggt : g ≠ gt := by omega
              have hl2l : l2 < l := by omega
              clear hmid ha2 ha3 hgv hcne hl2 hrr hn0 hn1 hbf hcm hvm hv2 hv3 hul hle2
              go_wp2_with fail
              refine wp_region_noPanic ?_
              refine wp_region_held_drew (S := (SChn w.heap.size g (o + k * 5) gt l rr (.slice A1 m1 c1) (.slice A2 m2 c2) (.slice (some ⟨g, o, none⟩) m3 c3) (.slice Ad dl cd) a2 a3)) (by kernel_rfl) ?_ (fun hHd0 => ?_)
              · first | exact SChn.below HS.out (by first | exact (Below.refl _ _).drew | exact HMID.out _ | exact HB5.out) | exact HS5.out _
              refine wpAnyH_take (i := 0) (v := ?_) rfl (by kernel_rfl) (by kernel_rfl) (by kernel_rfl) (fun _ _ _ h => h) (Or.inl ⟨by rfl, ?_⟩) (by with_reducible assumption) ?_
              rotate_left
              · intro w hSw; (try dsimp only at hSw); go_simp <;> with_reducible rfl
              (try simp only [Act.put]); (try simp only [List.setIfInBounds_toArray]); (try simp only [List.set_cons_succ, List.set_cons_zero])
              refine wpAnyH_take (i := 1) (v := ?_) rfl (by kernel_rfl) (by kernel_rfl) (by kernel_rfl) (fun _ _ _ h => h) (Or.inl ⟨by rfl, ?_⟩) (by with_reducible assumption) ?_
              rotate_left
              · intro w hSw; (try dsimp only at hSw); go_simp <;> with_reducible rfl
              (try simp only [Act.put]); (try simp only [List.setIfInBounds_toArray]); (try simp only [List.set_cons_succ, List.set_cons_zero])
              refine wpAnyH_take (i := 2) (v := ?_) rfl (by kernel_rfl) (by kernel_rfl) (by kernel_rfl) (fun _ _ _ h => h) (Or.inl ⟨by rfl, ?_⟩) (by with_reducible assumption) ?_
              rotate_left
              · intro w hSw; (try dsimp only at hSw); go_simp <;> with_reducible rfl
              (try simp only [Act.put]); (try simp only [List.setIfInBounds_toArray]); (try simp only [List.set_cons_succ, List.set_cons_zero])
              refine wpAnyH_take (i := 3) (v := ?_) rfl (by kernel_rfl) (by kernel_rfl) (by kernel_rfl) (fun _ _ _ h => h) (Or.inl ⟨by rfl, ?_⟩) (by with_reducible assumption) ?_
              rotate_left
              · intro w hSw; (try dsimp only at hSw); go_simp <;> with_reducible rfl
              (try simp only [Act.put]); (try simp only [List.setIfInBounds_toArray]); (try simp only [List.set_cons_succ, List.set_cons_zero])
              refine wpAnyH_take (i := 4) (v := ?_) rfl (by kernel_rfl) (by kernel_rfl) (by kernel_rfl) (fun _ _ _ h => h) (Or.inl ⟨by rfl, ?_⟩) (by with_reducible assumption) ?_
              rotate_left
              · intro w hSw; (try dsimp only at hSw); go_simp <;> with_reducible rfl
              (try simp only [Act.put]); (try simp only [List.setIfInBounds_toArray]); (try simp only [List.set_cons_succ, List.set_cons_zero])
              refine wpAnyH_take (i := 6) (v := ?_) rfl (by kernel_rfl) (by kernel_rfl) (by kernel_rfl) (fun _ _ _ h => h) (Or.inl ⟨by rfl, ?_⟩) (by with_reducible assumption) ?_
              rotate_left
              · intro w hSw; (try dsimp only at hSw); go_simp <;> with_reducible rfl
              (try simp only [Act.put]); (try simp only [List.setIfInBounds_toArray]); (try simp only [List.set_cons_succ, List.set_cons_zero])
              refine wpAnyH_take (i := 7) (v := ?_) rfl (by kernel_rfl) (by kernel_rfl) (by kernel_rfl) (fun _ _ _ h => h) (Or.inl ⟨by rfl, ?_⟩) (by with_reducible assumption) ?_
              rotate_left
              · intro w hSw; (try dsimp only at hSw); go_simp <;> with_reducible rfl
              (try simp only [Act.put]); (try simp only [List.setIfInBounds_toArray]); (try simp only [List.set_cons_succ, List.set_cons_zero])
              refine wpAnyH_take (i := 8) (v := ?_) rfl (by kernel_rfl) (by kernel_rfl) (by kernel_rfl) (fun _ _ _ h => h) (Or.inl ⟨by rfl, ?_⟩) (by with_reducible assumption) ?_
              rotate_left
              · intro w hSw; (try dsimp only at hSw); go_simp <;> with_reducible rfl
              (try simp only [Act.put]); (try simp only [List.setIfInBounds_toArray]); (try simp only [List.set_cons_succ, List.set_cons_zero])
              refine wpAnyH_take (i := 9) (v := ?_) rfl (by kernel_rfl) (by kernel_rfl) (by kernel_rfl) (fun _ _ _ h => h) (Or.inl ⟨by rfl, ?_⟩) (by with_reducible assumption) ?_
              rotate_left
              · intro w hSw; (try dsimp only at hSw); go_simp <;> with_reducible rfl
              (try simp only [Act.put]); (try simp only [List.setIfInBounds_toArray]); (try simp only [List.set_cons_succ, List.set_cons_zero])
              refine wpAnyH_take (i := 10) (v := ?_) rfl (by kernel_rfl) (by kernel_rfl) (by kernel_rfl) (fun _ _ _ h => h) (Or.inl ⟨by rfl, ?_⟩) (by with_reducible assumption) ?_
              rotate_left
              · intro w hSw; (try dsimp only at hSw); go_simp <;> with_reducible rfl
              (try simp only [Act.put]); (try simp only [List.setIfInBounds_toArray]); (try simp only [List.set_cons_succ, List.set_cons_zero])
              refine wpAnyH_take (i := 11) (v := ?_) rfl (by kernel_rfl) (by kernel_rfl) (by kernel_rfl) (fun _ _ _ h => h) (Or.inl ⟨by rfl, ?_⟩) (by with_reducible assumption) ?_
              rotate_left
              · intro w hSw; (try dsimp only at hSw); go_simp <;> with_reducible rfl
              (try simp only [Act.put]); (try simp only [List.setIfInBounds_toArray]); (try simp only [List.set_cons_succ, List.set_cons_zero])
              refine wpAnyH_take (i := 12) (v := ?_) rfl (by kernel_rfl) (by kernel_rfl) (by kernel_rfl) (fun _ _ _ h => h) (Or.inl ⟨by rfl, ?_⟩) (by with_reducible assumption) ?_
              rotate_left
              · intro w hSw; (try dsimp only at hSw); go_simp <;> with_reducible rfl
              (try simp only [Act.put]); (try simp only [List.setIfInBounds_toArray]); (try simp only [List.set_cons_succ, List.set_cons_zero])
              refine wpAnyH_take (i := 13) (v := ?_) rfl (by kernel_rfl) (by kernel_rfl) (by kernel_rfl) (fun _ _ _ h => h) (Or.inl ⟨by rfl, ?_⟩) (by with_reducible assumption) ?_
              rotate_left
              · intro w hSw; (try dsimp only at hSw); go_simp <;> with_reducible rfl
              (try simp only [Act.put]); (try simp only [List.setIfInBounds_toArray]); (try simp only [List.set_cons_succ, List.set_cons_zero])
              refine wpAnyH_take (i := 14) (v := ?_) rfl (by kernel_rfl) (by kernel_rfl) (by kernel_rfl) (fun _ _ _ h => h) (Or.inl ⟨by rfl, ?_⟩) (by with_reducible assumption) ?_
              rotate_left
              · intro w hSw; (try dsimp only at hSw); go_simp <;> with_reducible rfl
              (try simp only [Act.put]); (try simp only [List.setIfInBounds_toArray]); (try simp only [List.set_cons_succ, List.set_cons_zero])
              refine wpAnyH_take (i := 15) (v := ?_) rfl (by kernel_rfl) (by kernel_rfl) (by kernel_rfl) (fun _ _ _ h => h) (Or.inl ⟨by rfl, ?_⟩) (by with_reducible assumption) ?_
              rotate_left
              · intro w hSw; (try dsimp only at hSw); go_simp <;> with_reducible rfl
              (try simp only [Act.put]); (try simp only [List.setIfInBounds_toArray]); (try simp only [List.set_cons_succ, List.set_cons_zero])
              refine wpAnyH_take (i := 16) (v := ?_) rfl (by kernel_rfl) (by kernel_rfl) (by kernel_rfl) (fun _ _ _ h => h) (Or.inl ⟨by rfl, ?_⟩) (by with_reducible assumption) ?_
              rotate_left
              · intro w hSw; (try dsimp only at hSw); go_simp <;> with_reducible rfl
              (try simp only [Act.put]); (try simp only [List.setIfInBounds_toArray]); (try simp only [List.set_cons_succ, List.set_cons_zero])
              refine wpAnyH_take (i := 17) (v := ?_) rfl (by kernel_rfl) (by kernel_rfl) (by kernel_rfl) (fun _ _ _ h => h) (Or.inl ⟨by rfl, ?_⟩) (by with_reducible assumption) ?_
              rotate_left
              · intro w hSw; (try dsimp only at hSw); go_simp <;> with_reducible rfl
              (try simp only [Act.put]); (try simp only [List.setIfInBounds_toArray]); (try simp only [List.set_cons_succ, List.set_cons_zero])
              refine wpAnyH_take (i := 18) (v := ?_) rfl (by kernel_rfl) (by kernel_rfl) (by kernel_rfl) (fun _ _ _ h => h) (Or.inl ⟨by rfl, ?_⟩) (by with_reducible assumption) ?_
              rotate_left
              · intro w hSw; (try dsimp only at hSw); go_simp <;> with_reducible rfl
              (try simp only [Act.put]); (try simp only [List.setIfInBounds_toArray]); (try simp only [List.set_cons_succ, List.set_cons_zero])
              refine wpAnyH_take (i := 19) (v := ?_) rfl (by kernel_rfl) (by kernel_rfl) (by kernel_rfl) (fun _ _ _ h => h) (Or.inl ⟨by rfl, ?_⟩) (by with_reducible assumption) ?_
              rotate_left
              · intro w hSw; (try dsimp only at hSw); go_simp <;> with_reducible rfl
              (try simp only [Act.put]); (try simp only [List.setIfInBounds_toArray]); (try simp only [List.set_cons_succ, List.set_cons_zero])
              refine wpAnyH_take (i := 20) (v := ?_) rfl (by kernel_rfl) (by kernel_rfl) (by kernel_rfl) (fun _ _ _ h => h) (Or.inl ⟨by rfl, ?_⟩) (by with_reducible assumption) ?_
              rotate_left
              · intro w hSw; (try dsimp only at hSw); go_simp <;> with_reducible rfl
              (try simp only [Act.put]); (try simp only [List.setIfInBounds_toArray]); (try simp only [List.set_cons_succ, List.set_cons_zero])
              refine wpAnyH_take (i := 21) (v := ?_) rfl (by kernel_rfl) (by kernel_rfl) (by kernel_rfl) (fun _ _ _ h => h) (Or.inl ⟨by rfl, ?_⟩) (by with_reducible assumption) ?_
              rotate_left
              · intro w hSw; (try dsimp only at hSw); go_simp <;> with_reducible rfl
              (try simp only [Act.put]); (try simp only [List.setIfInBounds_toArray]); (try simp only [List.set_cons_succ, List.set_cons_zero])
              refine wpAnyH_take (i := 22) (v := ?_) rfl (by kernel_rfl) (by kernel_rfl) (by kernel_rfl) (fun _ _ _ h => h) (Or.inl ⟨by rfl, ?_⟩) (by with_reducible assumption) ?_
              rotate_left
              · intro w hSw; (try dsimp only at hSw); go_simp <;> with_reducible rfl
              (try simp only [Act.put]); (try simp only [List.setIfInBounds_toArray]); (try simp only [List.set_cons_succ, List.set_cons_zero])
              refine wpAnyH_ready (rs := [5, 23]) (by kernel_rfl) (by simp) ?_
              refine AllReadyH.cons (o := _) rfl (fun K hK => ?_) ?_
              · go_simp
                refine hK.out _ _ ?_ (fun hHd1 => ?_)
                · (try dsimp only); first | exact SChn.below HS.out (by first | exact (Below.refl _ _).drew | exact HMID.out _ | exact HB5.out) | exact HS5.out _
                clear hK K hHd0
                (try simp only [Act.put]); (try simp only [List.setIfInBounds_toArray]); (try simp only [List.set_cons_succ, List.set_cons_zero])
                refine wpAnyH_ready (rs := [23]) (by kernel_rfl) (by simp) ?_
                refine AllReadyH.cons (o := _) rfl (fun K hK => ?_) ?_
                · go_simp
                  refine hK.out _ _ ?_ (fun hHd2 => ?_)
                  · (try dsimp only); first | exact SChn.below HS.out (by first | exact (Below.refl _ _).drew | exact HMID.out _ | exact HB5.out) | exact HS5.out _
                  clear hK K hHd1
                  (try simp only [Act.put]); (try simp only [List.setIfInBounds_toArray]); (try simp only [List.set_cons_succ, List.set_cons_zero])
                  refine wpAnyH_ready (rs := [24]) (by kernel_rfl) (by simp) ?_
                  refine AllReadyH.cons (o := _) rfl (fun K hK => ?_) ?_
                  · (go_simp; refine (HGC.out _ _ _ (HBR.out.trans ((HMID.out _).mono HBR.out.size)) (HUR.out.below (Nat.le_refl _) (HMID.out _)) (i64_lit2 _ a2 a3)).mono ?_; rintro e w5 ⟨rfl, hb5⟩; have HB5 : Hid (Below wr.heap.size wr w5) := Lib.hid ((HMID.out (.cells #[.int .i64 (a2 : Int), .int .i64 (a3 : Int)] 3)).trans (hb5.mono (HMID.out _).size)); have q5 := (HB5.out.cell (p := ⟨gt, m, none⟩) hsr).trans q1; have f5 := (HB5.out.frozen (p := ⟨gt, m, none⟩) hsr).trans f1; have HS5 : Hid (∀ u, SChn w.heap.size g (o + k * 5) gt l rr (.slice A1 m1 c1) (.slice A2 m2 c2) (.slice (some ⟨g, o, none⟩) m3 c3) (.slice Ad dl cd) a2 a3 (w5.setCell ⟨gt, m, none⟩ u)) := Lib.hid (fun u => (SChn.below HS.out HB5.out).set hxgt hggt hn12 hn13 u); clear hb5; (try dsimp only))
                    refine hK.out _ _ ?_ (fun hHd3 => ?_)
                    · (try dsimp only); first | exact SChn.below HS.out (by first | exact (Below.refl _ _).drew | exact HMID.out _ | exact HB5.out) | exact HS5.out _
                    clear hK K hHd2
                    (try simp only [Act.put]); (try simp only [List.setIfInBounds_toArray]); (try simp only [List.set_cons_succ, List.set_cons_zero])
                    refine wpAnyH_take (i := 25) (v := ?_) rfl (by kernel_rfl) (by kernel_rfl) (by kernel_rfl) (fun _ _ _ h => h) (Or.inl ⟨by rfl, ?_⟩) (by with_reducible assumption) ?_
                    rotate_left
                    · intro w hSw; (try dsimp only at hSw); go_simp <;> with_reducible rfl
                    (try simp only [Act.put]); (try simp only [List.setIfInBounds_toArray]); (try simp only [List.set_cons_succ, List.set_cons_zero])
                    refine wpAnyH_take (i := 26) (v := ?_) rfl (by kernel_rfl) (by kernel_rfl) (by kernel_rfl) (fun _ _ _ h => h) (Or.inl ⟨by rfl, ?_⟩) (by with_reducible assumption) ?_
                    rotate_left
                    · intro w hSw; (try dsimp only at hSw); go_simp <;> with_reducible rfl
                    (try simp only [Act.put]); (try simp only [List.setIfInBounds_toArray]); (try simp only [List.set_cons_succ, List.set_cons_zero])
                    refine wpAnyH_ready (rs := [27]) (by kernel_rfl) (by simp) ?_
                    refine AllReadyH.cons (o := _) rfl (fun K hK => ?_) ?_
                    · go_simp
                      refine hK.out _ _ ?_ (fun hHd4 => ?_)
                      · (try dsimp only); first | exact SChn.below HS.out (by first | exact (Below.refl _ _).drew | exact HMID.out _ | exact HB5.out) | exact HS5.out _
                      clear hK K hHd3
                      (try simp only [Act.put]); (try simp only [List.setIfInBounds_toArray]); (try simp only [List.set_cons_succ, List.set_cons_zero])
                      refine wpAnyH_done (by kernel_rfl) ?_ _
                      refine NoPanic.normal ?_
                      have HO6 : Hid ((w5.setCell ⟨gt, m, none⟩ (.int .i64 (cn : Int))).ownsRow gt 3 1 (.slice (some ⟨gt, 0, none⟩) z z) z (ivs (nats (T.set m cn)))) := Lib.hid (by
                        have h9 := setCell_own (own_below HO.out HB5.out) m (.int .i64 (cn : Int))
                        rw [ivs_set, nats_set] at h9
                        exact h9)
                      have HB6 := Lib.hid ((HB.out.trans (HB5.out.mono (Nat.le_of_lt hsr))).setCell (p := ⟨gt, m, none⟩) (Nat.le_refl _) (.int .i64 (cn : Int)))
                      clear q5 f5
                      go_wp2
                      go_roundw
                      case rel => exact ⟨l2, cn, _, rfl, by omega, HN, HT2, HO6, HB6⟩
                      case measure => simp [intOf]; omega
                    exact AllReadyH.nil
                  exact AllReadyH.nil
                exact AllReadyH.nil
              refine AllReadyH.cons (o := _) rfl (fun K hK => ?_) ?_
              · go_simp
                refine hK.out _ _ ?_ (fun hHd5 => ?_)
                · (try dsimp only); first | exact SChn.below HS.out (by first | exact (Below.refl _ _).drew | exact HMID.out _ | exact HB5.out) | exact HS5.out _
                clear hK K hHd0
                (try simp only [Act.put]); (try simp only [List.setIfInBounds_toArray]); (try simp only [List.set_cons_succ, List.set_cons_zero])
                refine wpAnyH_ready (rs := [5, 24]) (by kernel_rfl) (by simp) ?_
                refine AllReadyH.cons (o := _) rfl (fun K hK => ?_) ?_
                · go_simp
                  refine hK.out _ _ ?_ (fun hHd6 => ?_)
                  · (try dsimp only); first | exact SChn.below HS.out (by first | exact (Below.refl _ _).drew | exact HMID.out _ | exact HB5.out) | exact HS5.out _
                  clear hK K hHd5
                  (try simp only [Act.put]); (try simp only [List.setIfInBounds_toArray]); (try simp only [List.set_cons_succ, List.set_cons_zero])
                  refine wpAnyH_ready (rs := [24]) (by kernel_rfl) (by simp) ?_
                  refine AllReadyH.cons (o := _) rfl (fun K hK => ?_) ?_
                  · (go_simp; refine (HGC.out _ _ _ (HBR.out.trans ((HMID.out _).mono HBR.out.size)) (HUR.out.below (Nat.le_refl _) (HMID.out _)) (i64_lit2 _ a2 a3)).mono ?_; rintro e w5 ⟨rfl, hb5⟩; have HB5 : Hid (Below wr.heap.size wr w5) := Lib.hid ((HMID.out (.cells #[.int .i64 (a2 : Int), .int .i64 (a3 : Int)] 3)).trans (hb5.mono (HMID.out _).size)); have q5 := (HB5.out.cell (p := ⟨gt, m, none⟩) hsr).trans q1; have f5 := (HB5.out.frozen (p := ⟨gt, m, none⟩) hsr).trans f1; have HS5 : Hid (∀ u, SChn w.heap.size g (o + k * 5) gt l rr (.slice A1 m1 c1) (.slice A2 m2 c2) (.slice (some ⟨g, o, none⟩) m3 c3) (.slice Ad dl cd) a2 a3 (w5.setCell ⟨gt, m, none⟩ u)) := Lib.hid (fun u => (SChn.below HS.out HB5.out).set hxgt hggt hn12 hn13 u); clear hb5; (try dsimp only))
                    refine hK.out _ _ ?_ (fun hHd7 => ?_)
                    · (try dsimp only); first | exact SChn.below HS.out (by first | exact (Below.refl _ _).drew | exact HMID.out _ | exact HB5.out) | exact HS5.out _
                    clear hK K hHd6
                    (try simp only [Act.put]); (try simp only [List.setIfInBounds_toArray]); (try simp only [List.set_cons_succ, List.set_cons_zero])
                    refine wpAnyH_take (i := 25) (v := ?_) rfl (by kernel_rfl) (by kernel_rfl) (by kernel_rfl) (fun _ _ _ h => h) (Or.inl ⟨by rfl, ?_⟩) (by with_reducible assumption) ?_
                    rotate_left
                    · intro w hSw; (try dsimp only at hSw); go_simp <;> with_reducible rfl
                    (try simp only [Act.put]); (try simp only [List.setIfInBounds_toArray]); (try simp only [List.set_cons_succ, List.set_cons_zero])
                    refine wpAnyH_take (i := 26) (v := ?_) rfl (by kernel_rfl) (by kernel_rfl) (by kernel_rfl) (fun _ _ _ h => h) (Or.inl ⟨by rfl, ?_⟩) (by with_reducible assumption) ?_
                    rotate_left
                    · intro w hSw; (try dsimp only at hSw); go_simp <;> with_reducible rfl
                    (try simp only [Act.put]); (try simp only [List.setIfInBounds_toArray]); (try simp only [List.set_cons_succ, List.set_cons_zero])
                    refine wpAnyH_ready (rs := [27]) (by kernel_rfl) (by simp) ?_
                    refine AllReadyH.cons (o := _) rfl (fun K hK => ?_) ?_
                    · go_simp
                      refine hK.out _ _ ?_ (fun hHd8 => ?_)
                      · (try dsimp only); first | exact SChn.below HS.out (by first | exact (Below.refl _ _).drew | exact HMID.out _ | exact HB5.out) | exact HS5.out _
                      clear hK K hHd7
                      (try simp only [Act.put]); (try simp only [List.setIfInBounds_toArray]); (try simp only [List.set_cons_succ, List.set_cons_zero])
                      refine wpAnyH_done (by kernel_rfl) ?_ _
                      refine NoPanic.normal ?_
                      have HO6 : Hid ((w5.setCell ⟨gt, m, none⟩ (.int .i64 (cn : Int))).ownsRow gt 3 1 (.slice (some ⟨gt, 0, none⟩) z z) z (ivs (nats (T.set m cn)))) := Lib.hid (by
                        have h9 := setCell_own (own_below HO.out HB5.out) m (.int .i64 (cn : Int))
                        rw [ivs_set, nats_set] at h9
                        exact h9)
                      have HB6 := Lib.hid ((HB.out.trans (HB5.out.mono (Nat.le_of_lt hsr))).setCell (p := ⟨gt, m, none⟩) (Nat.le_refl _) (.int .i64 (cn : Int)))
                      clear q5 f5
                      go_wp2
                      go_roundw
                      case rel => exact ⟨l2, cn, _, rfl, by omega, HN, HT2, HO6, HB6⟩
                      case measure => simp [intOf]; omega
                    exact AllReadyH.nil
                  exact AllReadyH.nil
                refine AllReadyH.cons (o := _) rfl (fun K hK => ?_) ?_
                · (go_simp; refine (HGC.out _ _ _ (HBR.out.trans ((HMID.out _).mono HBR.out.size)) (HUR.out.below (Nat.le_refl _) (HMID.out _)) (i64_lit2 _ a2 a3)).mono ?_; rintro e w5 ⟨rfl, hb5⟩; have HB5 : Hid (Below wr.heap.size wr w5) := Lib.hid ((HMID.out (.cells #[.int .i64 (a2 : Int), .int .i64 (a3 : Int)] 3)).trans (hb5.mono (HMID.out _).size)); have q5 := (HB5.out.cell (p := ⟨gt, m, none⟩) hsr).trans q1; have f5 := (HB5.out.frozen (p := ⟨gt, m, none⟩) hsr).trans f1; have HS5 : Hid (∀ u, SChn w.heap.size g (o + k * 5) gt l rr (.slice A1 m1 c1) (.slice A2 m2 c2) (.slice (some ⟨g, o, none⟩) m3 c3) (.slice Ad dl cd) a2 a3 (w5.setCell ⟨gt, m, none⟩ u)) := Lib.hid (fun u => (SChn.below HS.out HB5.out).set hxgt hggt hn12 hn13 u); clear hb5; (try dsimp only))
                  refine hK.out _ _ ?_ (fun hHd9 => ?_)
                  · (try dsimp only); first | exact SChn.below HS.out (by first | exact (Below.refl _ _).drew | exact HMID.out _ | exact HB5.out) | exact HS5.out _
                  clear hK K hHd5
                  (try simp only [Act.put]); (try simp only [List.setIfInBounds_toArray]); (try simp only [List.set_cons_succ, List.set_cons_zero])
                  refine wpAnyH_ready (rs := [5]) (by kernel_rfl) (by simp) ?_
                  refine AllReadyH.cons (o := _) rfl (fun K hK => ?_) ?_
                  · go_simp
                    refine hK.out _ _ ?_ (fun hHd10 => ?_)
                    · (try dsimp only); first | exact SChn.below HS.out (by first | exact (Below.refl _ _).drew | exact HMID.out _ | exact HB5.out) | exact HS5.out _
                    clear hK K hHd9
                    (try simp only [Act.put]); (try simp only [List.setIfInBounds_toArray]); (try simp only [List.set_cons_succ, List.set_cons_zero])
                    refine wpAnyH_take (i := 25) (v := ?_) rfl (by kernel_rfl) (by kernel_rfl) (by kernel_rfl) (fun _ _ _ h => h) (Or.inl ⟨by rfl, ?_⟩) (by with_reducible assumption) ?_
                    rotate_left
                    · intro w hSw; (try dsimp only at hSw); go_simp <;> with_reducible rfl
                    (try simp only [Act.put]); (try simp only [List.setIfInBounds_toArray]); (try simp only [List.set_cons_succ, List.set_cons_zero])
                    refine wpAnyH_take (i := 26) (v := ?_) rfl (by kernel_rfl) (by kernel_rfl) (by kernel_rfl) (fun _ _ _ h => h) (Or.inl ⟨by rfl, ?_⟩) (by with_reducible assumption) ?_
                    rotate_left
                    · intro w hSw; (try dsimp only at hSw); go_simp <;> with_reducible rfl
                    (try simp only [Act.put]); (try simp only [List.setIfInBounds_toArray]); (try simp only [List.set_cons_succ, List.set_cons_zero])
                    refine wpAnyH_ready (rs := [27]) (by kernel_rfl) (by simp) ?_
                    refine AllReadyH.cons (o := _) rfl (fun K hK => ?_) ?_
                    · go_simp
                      refine hK.out _ _ ?_ (fun hHd11 => ?_)
                      · (try dsimp only); first | exact SChn.below HS.out (by first | exact (Below.refl _ _).drew | exact HMID.out _ | exact HB5.out) | exact HS5.out _
                      clear hK K hHd10
                      (try simp only [Act.put]); (try simp only [List.setIfInBounds_toArray]); (try simp only [List.set_cons_succ, List.set_cons_zero])
                      refine wpAnyH_done (by kernel_rfl) ?_ _
                      refine NoPanic.normal ?_
                      have HO6 : Hid ((w5.setCell ⟨gt, m, none⟩ (.int .i64 (cn : Int))).ownsRow gt 3 1 (.slice (some ⟨gt, 0, none⟩) z z) z (ivs (nats (T.set m cn)))) := Lib.hid (by
                        have h9 := setCell_own (own_below HO.out HB5.out) m (.int .i64 (cn : Int))
                        rw [ivs_set, nats_set] at h9
                        exact h9)
                      have HB6 := Lib.hid ((HB.out.trans (HB5.out.mono (Nat.le_of_lt hsr))).setCell (p := ⟨gt, m, none⟩) (Nat.le_refl _) (.int .i64 (cn : Int)))
                      clear q5 f5
                      go_wp2
                      go_roundw
                      case rel => exact ⟨l2, cn, _, rfl, by omega, HN, HT2, HO6, HB6⟩
                      case measure => simp [intOf]; omega
                    exact AllReadyH.nil
                  exact AllReadyH.nil
                exact AllReadyH.nil
              exact AllReadyH.nil
    · obtain rfl : m = z := by omega
      have d1 : decide ((m : Int) < (m : Int)) = false := decide_eq_false (by omega)
      obtain ⟨x, hx⟩ : ∃ x, x = m - 1 := ⟨_, rfl⟩
      have hsb : IntKind.i64.wrap ((m : Int) - 1) = (x : Int) := by rw [wraps_i64 _ (by omega) (by omega)]; omega
      obtain ⟨q1, _⟩ := in_cell HO.out (show x < m by omega)
      rw [HT.out.2.1 x (by omega) (by omega)] at q1
      have HQ : Hid (V true U DD A x = vr) := Lib.hid (by rw [HVR.out, hx])
      rw [HQ.out] at q1
      have j3 : (0 : Int) ≤ (x : Int) := by omega
      have j4 : (x : Int) < (m : Int) := by omega
      have HBF := Lib.hid (HBW.out _ HB.out)
      clear hx
      go_wp2_with (go_at_call 94; refine (HBP.out _).mono ?_; rintro e w0 ⟨rfl, rfl⟩)
      go_ret
      exact ⟨rfl, HBF.out⟩
end Go.Proofs.YtjejdcehlckfhaaGreat.tsr
