/-
  THE PROGRAM's FUNCTIONS OF SORTS: haveCircle, hasSort, asSorts, relatedTo, least, greatest, bothDirections, sortOrder; IsSorts, AboveSort, BelowSort, KindOfSort, LeastSorts, CommonSorts, GreatestSorts.
-/
import Derived.Test.YtjejdcehlckfhaaGreatSortp
namespace Go.Proofs.YtjejdcehlckfhaaGreat.sorti
open Go.ChangeShapes Go.WideShapes Go.ChangeAt Go.RowKit
open mem split strl subs sortn setm sets sortm sortp

/-- all sets of U are small -/
def Lim (U : List Nat) : Prop := U.length ≤ 8 ∧ ∀ i, U.getD i 0 < 2 ^ U.length
theorem Lim.lt {U : List Nat} (h : Lim U) (i : Nat) : U.getD i 0 < 65536 := Nat.lt_of_lt_of_le (h.2 i) (Nat.le_trans (Nat.pow_le_pow_right (n := 2) (by decide) h.1) (by decide))
theorem pow8 {n : Nat} (h : n ≤ 8) : 2 ^ n ≤ 256 := Nat.le_trans (Nat.pow_le_pow_right (n := 2) (by decide) h) (by decide)
theorem Lim.nil : Lim [] := ⟨by simp, fun i => by simp⟩
/-- sortSets.haveCircle -/
theorem haveCircle_any (U : List Nat) (hU : Lim U) (v : Value) (r : Bool) (hr : circ U.length U = r) (w : World) (hM : MapU w v U) :
    Calls Tryz.prog 137 #[v] w fun e w' => e = .returned (.bool r) ∧ w = w' := by
  have hlen := hM.len
  have HM := Lib.hid hM
  have HR := Lib.hid hr
  have HU := Lib.hid hU
  obtain ⟨n, hn⟩ : ∃ n, n = U.length := ⟨_, rfl⟩
  rw [← hn] at hlen
  have hn8 : n ≤ 8 := by rw [hn]; exact hU.1
  have HN := Lib.hid hn
  clear hM hr hU hn
  go_enter Tryz.func137, Tryz.ntmps137
  go_wp2
  go_loop [7] (fun i => ∃ h : Nat, h ≤ n ∧ i = .int .i64 h ∧ Hid (∀ a b, a < h → b < a → ¬ ((U.getD b 0).testBit a = true ∧ (U.getD a 0).testBit b = true))) (fun i => n - (intOf i).toNat)
  case atStart => exact ⟨0, Nat.zero_le _, rfl, Lib.hid (fun a b h => by omega)⟩
  case round =>
    obtain ⟨h, hh, rfl, HX⟩ := hrel
    by_cases hlt : h < n
    · go_wp2
      go_loop [11] (fun i => ∃ l : Nat, l ≤ h ∧ i = .int .i64 l ∧ Hid (∀ b, b < l → ¬ ((U.getD b 0).testBit h = true ∧ (U.getD h 0).testBit b = true))) (fun i => h - (intOf i).toNat)
      case atStart => exact ⟨0, Nat.zero_le _, rfl, Lib.hid (fun b h => by omega)⟩
      case round =>
        obtain ⟨l, hl, rfl, HY⟩ := hrel
        by_cases hlt2 : l < h
        · have k1 := HM.out.look (x := (l : Int)) (by omega) (by omega)
          have k2 := HM.out.look (x := (h : Int)) (by omega) (by omega)
          rw [atU_nat] at k1 k2
          have HC1 := Lib.hid (fun b hb W => nhas_any (U.getD l 0) h (HU.out.lt l) (by omega) b hb W)
          have HC2 := Lib.hid (fun b hb W => nhas_any (U.getD h 0) l (HU.out.lt h) (by omega) b hb W)
          have HT : Hid ((U.getD l 0).testBit h = true → (U.getD h 0).testBit l = true → r = true) := Lib.hid (fun e1 e2 => by rw [← HR.out]; exact circ_true (by have := HN.out; omega) hlt2 e1 e2)
          have HF : Hid (¬ ((U.getD l 0).testBit h = true ∧ (U.getD h 0).testBit l = true) → ∀ b, b < l + 1 → ¬ ((U.getD b 0).testBit h = true ∧ (U.getD h 0).testBit b = true)) := Lib.hid (fun e b hb => by
            by_cases hbl : b = l
            · subst hbl; exact e
            · exact HY.out b (by omega))
          obtain ⟨s, hs⟩ : ∃ s, s = U.getD l 0 := ⟨_, rfl⟩
          obtain ⟨t, ht⟩ : ∃ t, t = U.getD h 0 := ⟨_, rfl⟩
          rw [← hs] at k1 HC1
          rw [← ht] at k2 HC2
          rw [← hs, ← ht] at HT
          have HSL : Hid (s < 65536) := Lib.hid (by rw [hs]; exact HU.out.lt l)
          have HTL : Hid (t < 65536) := Lib.hid (by rw [ht]; exact HU.out.lt h)
          have HSS := Lib.hid hs
          have HTT := Lib.hid ht
          clear hs ht
          cases h1 : s.testBit h with
          | false =>
            have HD := Lib.hid (HC1.out false h1)
            have HF2 := Lib.hid (HF.out (by rw [← HSS.out, h1]; simp))
            clear h1
            go_wp2_with (go_at_call 97; refine (HD.out _).mono ?_; rintro e w1 ⟨rfl, rfl⟩)
            go_round
            case rel => exact ⟨l + 1, by omega, by go_num, HF2⟩
            case measure => simp [intOf]; omega
          | true =>
            have HD := Lib.hid h1
            cases h2 : t.testBit l with
            | false =>
              have HD2 := Lib.hid h2
              have HF2 := Lib.hid (HF.out (by rw [← HTT.out, h2]; simp))
              clear h1 h2
              go_wp2_with (go_at_call 97; refine (nhas_any _ _ (by first | exact HSL.out | exact HTL.out) (by omega) _ (by first | exact HD.out | exact HD2.out) _).mono ?_; rintro e w1 ⟨rfl, rfl⟩)
              go_round
              case rel => exact ⟨l + 1, by omega, by go_num, HF2⟩
              case measure => simp [intOf]; omega
            | true =>
              have HD2 := Lib.hid h2
              have HQ := Lib.hid (HT.out h1 h2)
              clear h1 h2
              go_wp2_with (go_at_call 97; refine (nhas_any _ _ (by first | exact HSL.out | exact HTL.out) (by omega) _ (by first | exact HD.out | exact HD2.out) _).mono ?_; rintro e w1 ⟨rfl, rfl⟩)
              go_ret
              exact ⟨ret_bool HQ.out.symm, rfl⟩
        · obtain rfl : l = h := by omega
          go_wp2
          go_round
          case rel =>
            refine ⟨l + 1, by omega, by go_num, Lib.hid (fun a b ha hb => ?_)⟩
            by_cases hal : a = l
            · subst hal; exact HY.out b hb
            · exact HX.out a b (by omega) hb
          case measure => simp [intOf]; omega
    · obtain rfl : h = n := by omega
      have HQ : Hid (r = false) := Lib.hid (by rw [← HR.out]; exact circ_false (fun a b ha hb => HX.out a b (by have := HN.out; omega) hb))
      go_wp2
      go_ret
      exact ⟨ret_bool HQ.out.symm, rfl⟩
/-- sortSets.hasSort -/
theorem hasSort_any (U : List Nat) (v : Value) (x : Int) (h1 : -9223372036854775808 ≤ x) (h2 : x ≤ 9223372036854775807) (r : Bool) (hr : decide (0 ≤ x ∧ x < U.length) = r) (w : World) (hM : MapU w v U) :
    Calls Tryz.prog 187 #[v, .int .i64 x] w fun e w' => e = .returned (.bool r) ∧ w = w' := by
  have hl := hM.look_ok h1 h2
  rw [hr] at hl
  clear hM hr
  go_enter Tryz.func187, Tryz.ntmps187
  go_wp2
  go_ret
  exact ⟨rfl, rfl⟩
/-- the sorts that an int denotes -/
def inU (n : Nat) (x : Int) : Nat := if subI x ((2 ^ n - 1 : Nat) : Int) then x.toNat else 0
theorem inU_lt {n : Nat} (_hn : n ≤ 8) (x : Int) : inU n x < 2 ^ n := by
  unfold inU
  have h2 := Nat.two_pow_pos n
  split
  · rename_i h
    simp only [subI, Bool.and_eq_true] at h
    obtain ⟨⟨h1, _⟩, h3⟩ := h
    rw [Int.toNat_natCast] at h3
    refine Nat.lt_pow_two_of_testBit _ fun j hj => ?_
    cases hb : x.toNat.testBit j with
    | false => rfl
    | true =>
      have := (sub_iff _ _).1 h3 j hb
      rw [Nat.testBit_two_pow_sub_one] at this
      simp at this; omega
  · omega
/-- the sorts below x -/
def belowX (U : List Nat) (x : Int) : Nat := if 0 ≤ x ∧ x < U.length then belowU U x.toNat else 0
theorem belowX_lt (U : List Nat) (x : Int) : belowX U x < 2 ^ U.length := by
  unfold belowX
  split
  · exact belowU_lt _ _
  · exact Nat.two_pow_pos _
theorem look_drewN {w : World} {v : Value} {U : List Nat} (h : MapU w v U) (k : Nat) (hk : k < 1000) (q : Nat) :
    (Instr.lookup 77 v (.int .i64 (k : Int)) false).run Tryz.prog (w.drewN q) = .ok (.int .u16 ((U.getD k 0 : Nat) : Int)) (w.drewN q) := by
  have := (h.below (below_drewN (Below.refl _ _) q)).look (x := (k : Int)) (by omega) (by omega)
  rw [atU_nat] at this
  exact this
theorem nats_get (E : List Nat) (j : Nat) : (nats E).getD j 0 = ((E.getD j 0 : Nat) : Int) := by
  simp only [nats, List.getD, List.getElem?_map]
  cases E[j]? <;> simp
theorem takeN (E : List Nat) (k : Nat) (h : k < E.length) : E.take (k + 1) = E.take k ++ [E.getD k 0] := by
  rw [List.take_succ_eq_append_getElem h]; simp [List.getD, List.getElem?_eq_getElem h]
theorem els_lt {S j : Nat} (h : j < (els S).length) : (els S).getD j 0 < 16 := by
  have hm : (els S).getD j 0 ∈ els S := by
    simp only [List.getD, List.getElem?_eq_getElem h, Option.getD_some]; exact List.getElem_mem h
  exact (mem_els.1 hm).1
theorem minus_u16 (a b : Nat) (ha : a < 65536) (hb : b < 65536) : bits .andNot .u16 (a : Int) (b : Int) = ((minus a b : Nat) : Int) := andNot_u16 a b ha hb
theorem leastL_lt (U : List Nat) {S : Nat} (hS : S < 65536) (L : List Nat) : leastL U S L < 65536 :=
  Nat.lt_pow_two_of_testBit (n := 16) _ fun j hj => by rw [leastL_bit, bit_high hS hj]; rfl
theorem mostL_lt (U : List Nat) (S : Nat) (L : List Nat) (hL : ∀ k ∈ L, k < 16) : mostL U S L < 65536 :=
  Nat.lt_pow_two_of_testBit (n := 16) _ fun j hj => by
    cases h : (mostL U S L).testBit j with
    | false => rfl
    | true =>
      rw [mostL, mostL_bit] at h
      rcases h with h | h
      · simp at h
      · have := hL j h.1; omega
/-- sortSets.least -/
theorem least_any (U : List Nat) (hU : Lim U) (S : Nat) (hS : S < 65536) (v : Value) (w : World) (hM : MapU w v U) :
    Calls Tryz.prog 47 #[v, .int .u16 (S : Int)] w fun e w' => e = .returned (.int .u16 ((leastL U S (els S) : Nat) : Int)) ∧ Below w.heap.size w w' := by
  have HE := Lib.hid (fun W => nels_any S hS W)
  have HM := Lib.hid hM
  have HU := Lib.hid hU
  have HLL := Lib.hid (fun L => leastL_lt U hS L)
  have HT := Lib.hid (fun j (h : j < (els S).length) => takeN (els S) j h)
  have HEL := Lib.hid (fun j (h : j < (els S).length) => els_lt h)
  have HEN := Lib.hid (elsTo_len S 16)
  rw [show elsTo S 16 = els S from rfl] at HEN
  obtain ⟨E, hE⟩ : ∃ E, E = els S := ⟨_, rfl⟩
  rw [← hE] at HE HT HEL HEN ⊢
  obtain ⟨m, hm⟩ : ∃ m, m = E.length := ⟨_, rfl⟩
  rw [← hm] at HE HT HEL HEN
  have hm16 : m ≤ 16 := HEN.out
  have HMM := Lib.hid hm
  clear hM hU hE hm
  go_enter Tryz.func47, Tryz.ntmps47
  go_wp2_with (go_at_call 49; refine (HE.out _).mono ?_; rintro e w1 ⟨ev, rfl, hown, hb1⟩; obtain ⟨A, c, rfl, hh⟩ := (Has.of_own hown).shape (n := m) (by rw [ivs_len]; simp [nats]; exact HMM.out.symm); have HH := Lib.hid hh; clear hown hh)
  go_loopw [5, 13] (fun s i wr => ∃ j : Nat, j ≤ m ∧ i = .int .i64 j ∧ s = .int .u16 ((leastL U S (E.take j) : Nat) : Int) ∧ Below w1.heap.size w1 wr) (fun _ i _ => m - (intOf i).toNat)
  case atStart => exact ⟨0, Nat.zero_le _, rfl, rfl, Below.refl _ _⟩
  case round =>
    obtain ⟨j, hj, rfl, rfl, hbel⟩ := hrel
    by_cases hlt : j < m
    · obtain ⟨g, o, rfl, hg, hcell⟩ := HH.out.cellAt hlt
      rw [ivs_get _ j (by simp [nats]; have := HMM.out; omega), nats_get, ← hbel.cell (p := ⟨g, o + j, none⟩) hg] at hcell
      have hk := HEL.out j hlt
      have hsn := leastL_snoc U S (E.take j) (E.getD j 0)
      rw [← HT.out j hlt] at hsn
      have hLl := HLL.out (E.take j)
      obtain ⟨k, hkk⟩ : ∃ k, k = E.getD j 0 := ⟨_, rfl⟩
      rw [← hkk] at hcell hk hsn
      have k1 := look_drewN ((HM.out.below hb1).below hbel) k (by omega)
      have hUk := HU.out.lt k
      obtain ⟨G, hG⟩ : ∃ G, G = leastL U S (E.take j) := ⟨_, rfl⟩
      rw [← hG] at hsn hLl ⊢
      obtain ⟨u, hu⟩ : ∃ u, u = U.getD k 0 := ⟨_, rfl⟩
      rw [← hu] at k1 hUk hsn
      have hpk : 2 ^ k < 65536 := pow_lt hk
      have HWI : Hid (∀ W, Calls Tryz.prog 95 #[.int .u16 0, .int .i64 (k : Int)] W fun e w' => e = .returned (.int .u16 ((2 ^ k : Nat) : Int)) ∧ W = w') := Lib.hid (fun W => by
        have := nwith_any 0 k (by omega) hk W
        rw [Nat.zero_or] at this; exact this)
      have a1 : bits .andNot .u16 (u : Int) (2 ^ k) = ((minus u (2 ^ k) : Nat) : Int) := by
        have := minus_u16 u (2 ^ k) hUk hpk
        rw [show (((2 ^ k : Nat)) : Int) = (2 : Int) ^ k by simp] at this
        exact this
      have hmu : minus u (2 ^ k) < 65536 := minus_lt (n := 16) _ hUk
      have a2 := minus_u16 G (minus u (2 ^ k)) hLl hmu
      have HSN := Lib.hid hsn
      obtain ⟨M, hMM⟩ : ∃ M, M = minus u (2 ^ k) := ⟨_, rfl⟩
      rw [← hMM] at a1 a2 HSN
      obtain ⟨N2, hN2⟩ : ∃ N2, N2 = minus G M := ⟨_, rfl⟩
      rw [← hN2] at a2 HSN
      clear hkk hG hu hsn hMM hN2 hmu
      go_wp2
      go_quiet ((go_at_call 95; exact (HWI.out _).mono (fun _ _ h => ⟨h.1, _, h.2.symm⟩)))
      go_wp2
      go_roundw
      case rel => exact ⟨j + 1, by omega, by go_num, by rw [HSN.out], by first | exact hbel | exact hbel.drew | exact below_drewN hbel _⟩
      case measure => simp [intOf]; omega
    · obtain rfl : j = m := by omega
      go_wp2
      go_ret
      refine ⟨ret_int ?_, hb1.trans (hbel.mono hb1.size)⟩
      rw [List.take_of_length_le (by have := HMM.out; omega)]
def bothQ (Q : List (Int × Int)) : List (Int × Int) := Q.flatMap fun p => [p, (p.2, p.1)]
theorem bothQ_len (Q : List (Int × Int)) : (bothQ Q).length = 2 * Q.length := by
  induction Q with
  | nil => rfl
  | cons p Q ih => simp [bothQ] at ih ⊢; omega
theorem bothQ_prs (Q : List (Int × Int)) : prs (bothQ Q) = both (prs Q) := by
  induction Q with
  | nil => rfl
  | cons p Q ih => simp [bothQ, prs, both] at ih ⊢; exact ih
theorem bothQ_pin {n : Nat} {Q : List (Int × Int)} (h : PIn n Q) : PIn n (bothQ Q) := by
  intro q hq
  obtain ⟨p, hp, hpq⟩ := List.mem_flatMap.1 hq
  simp only [List.mem_cons, List.not_mem_nil, or_false] at hpq
  rcases hpq with rfl | rfl
  · exact h _ hp
  · exact ⟨(h p hp).2, (h p hp).1⟩
theorem bothQ_take (Q : List (Int × Int)) (k : Nat) (h : k < Q.length) : bothQ (Q.take (k + 1)) = bothQ (Q.take k) ++ [((Q.getD k (0, 0)).1, (Q.getD k (0, 0)).2), ((Q.getD k (0, 0)).2, (Q.getD k (0, 0)).1)] := by
  rw [takeP Q k h, bothQ, List.flatMap_append]; simp [bothQ]
theorem four_cells (w : World) (a b c d : Value) (t : TypeId) : ∀ (j : Nat) (x : Value), [a, b, c, d][j]? = some x → (w.alloc (.cells #[a, b, c, d] t)).cell? ((⟨w.heap.size, 0, none⟩ : Addr).add j) = some x := by
  intro j x hj
  match j, hj with
  | 0, hj => simp at hj; subst hj; simp [Addr.add]
  | 1, hj => simp at hj; subst hj; simp [Addr.add]
  | 2, hj => simp at hj; subst hj; simp [Addr.add]
  | 3, hj => simp at hj; subst hj; simp [Addr.add]
theorem four_one (a b c d : Int) : ∀ x ∈ ([.int .i64 a, .int .i64 b, .int .i64 c, .int .i64 d] : List Value), x.oneCell' = true := by
  intro x hx
  simp at hx
  rcases hx with rfl | rfl | rfl | rfl <;> rfl
/-- impl.bothDirections -/
theorem bothDirections_any (Q : List (Int × Int)) (hQ : Q.length ≤ 16) (v : Value) (w : World) (h : HasP w v Q) :
    Calls Tryz.prog 179 #[v] w fun e w' => ∃ v', e = .returned v' ∧ HasP w' v' (bothQ Q) ∧ Below w.heap.size w w' := by
  obtain ⟨i0, hi, hz0, hz1, hz2⟩ := info_parts info_sub
  obtain ⟨m, hm⟩ : ∃ m, m = Q.length := ⟨_, rfl⟩
  obtain ⟨A, c, rfl, h⟩ := h.shape hm.symm
  have hl := h.len.2
  rw [← hm] at hQ
  have HH := Lib.hid h
  have HM := Lib.hid hm
  clear h hm
  go_enter Tryz.func179, Tryz.ntmps179
  go_wp2_with (at_make; refine wpList_make_own _ rfl _ _ 35 rfl w.heap.size 177 i0 _ 2 Tryz.underlying35 hi hz0 hz1 _ _ _ (2 * m) rfl rfl (by go_num) (by rw [hz2]; omega) (by unfold maxLen; omega) (Nat.le_refl _) ?_)
  intro w1 hown hgrow
  have hb1 : Below w.heap.size w w1 := (Below.refl w.heap.size w).grown hgrow (Nat.le_refl _) (by intro k hk; cases hk)
  clear hgrow
  go_wp2
  go_loopw [3, 12] (fun v i wr => ∃ k : Nat, k ≤ m ∧ i = .int .i64 k ∧ wr.ownsRow w.heap.size 177 2 v (2 * k) (pcs (bothQ (Q.take k))) ∧ Below w.heap.size w wr) (fun _ i _ => m - (intOf i).toNat)
  case atStart => exact ⟨0, Nat.zero_le _, rfl, hown, hb1⟩
  case round =>
    obtain ⟨k, hk, rfl, hown', hbel⟩ := hrel
    clear hown
    have HO := Lib.hid (own_block hown')
    by_cases hlt : k < m
    · obtain ⟨g, o, rfl, hg, hcell, hcell2⟩ := HH.out.cellAt hlt
      rw [← hbel.cell (p := ⟨g, o + k * 2, none⟩) hg] at hcell
      rw [← hbel.cell (p := ⟨g, o + k * 2 + 1, none⟩) hg] at hcell2
      have HB := Lib.hid (bothQ_take Q k (by have := HM.out; omega))
      obtain ⟨x, hx⟩ : ∃ x, x = (Q.getD k (0, 0)).1 := ⟨_, rfl⟩
      obtain ⟨y, hy⟩ : ∃ y, y = (Q.getD k (0, 0)).2 := ⟨_, rfl⟩
      rw [← hx] at hcell HB
      rw [← hy] at hcell2 HB
      have HOWN := Lib.hid hown'
      clear hx hy hown'
      go_wp2_with (at_builtin; refine wpList_append_own _ rfl _ _ 35 rfl w.heap.size 177 i0 _ 2 16 Tryz.underlying35 hi hz0 hz1 hz2 rfl (by decide) _ _ _ rfl (own_below HOWN.out ?_) ⟨wr.heap.size + 1, 0, none⟩ 2 2 [.int .i64 x, .int .i64 y, .int .i64 y, .int .i64 x] rfl rfl ?_ (four_one _ _ _ _) (by unfold maxLen; omega) (by omega) (by have := hbel.size; simp; omega) ?_)
      · repeat (first | exact Below.refl _ _ | refine Below.setCell ?_ (by simp) _ | refine Below.alloc ?_ (by simp) _)
      · intro j u hj
        have := four_cells (wr.alloc (.cells #[.int .i64 x, .int .i64 y] 177)) _ _ _ _ 177 j u hj
        simpa using this
      intro v2 w2 hown2 hgrow2 _
      have HB2 : Below w.heap.size w w2 := Below.grown (w := _) (by repeat (first | exact hbel | refine Below.alloc ?_ (by first | exact hbel.size | (have := hbel.size; simp; omega)) _)) hgrow2 (by have := hbel.size; simp; omega) HO.out
      have HOWN2 : w2.ownsRow w.heap.size 177 2 v2 (2 * (k + 1)) (pcs (bothQ (Q.take (k + 1)))) := by
        rw [HB.out, pcs_append, show 2 * (k + 1) = 2 * k + 2 by omega]; exact hown2
      clear hown2 hgrow2 hbel
      go_wp2
      go_roundw
      case rel => exact ⟨k + 1, by omega, by go_num, HOWN2, HB2⟩
      case measure => simp [intOf]; omega
    · obtain rfl : k = m := by omega
      go_wp2
      go_ret
      refine ⟨_, rfl, ?_, hbel⟩
      have h1 := HasP.of_own hown'
      rw [List.take_of_length_le (by have := HM.out; omega)] at h1
      exact h1
/-- the order as a list of sets; none if the sorts are not valid -/
def ordU (P : List (List UInt8)) (Q : List (Int × Int)) : List Nat := if okS P Q then clo P.length (prs Q) else []
theorem ordU_lim (P : List (List UInt8)) (Q : List (Int × Int)) : Lim (ordU P Q) := by
  unfold ordU
  split
  · rename_i h
    obtain ⟨h1, h2, h3, h4, h5⟩ := okS_parts h
    exact ⟨by rw [clo_len]; exact h2, fun i => by rw [clo_len]; exact clo_lt h3.inR i⟩
  · exact Lim.nil
theorem ordU_yes {P : List (List UInt8)} {Q : List (Int × Int)} (h : okS P Q = true) : ordU P Q = clo P.length (prs Q) := by rw [ordU, if_pos h]
theorem ordU_no {P : List (List UInt8)} {Q : List (Int × Int)} (h : okS P Q = false) : ordU P Q = [] := by rw [ordU, if_neg (by simp [h])]
/-- what a value of Sorts holds -/
structure HasS (w : World) (va vb : Value) (P : List (List UInt8)) (Q : List (Int × Int)) : Prop where
  a : Has w va (ssv P)
  b : HasP w vb Q
  short : ∀ k, k < P.length → (P.getD k []).length ≤ maxLen
  in64 : In64 Q
theorem HasS.below {w w' : World} {va vb : Value} {P : List (List UInt8)} {Q : List (Int × Int)} (h : HasS w va vb P Q) {B : Nat} (hB : w.heap.size ≤ B) (hb : Below B w w') : HasS w' va vb P Q := ⟨h.a.below hB hb, h.b.below hB hb, h.short, h.in64⟩
theorem HasS.shape {w : World} {va vb : Value} {P : List (List UInt8)} {Q : List (Int × Int)} (h : HasS w va vb P Q) :
    ∃ A ca B cb, va = .slice A P.length ca ∧ vb = .slice B Q.length cb ∧ P.length ≤ 9223372036854775807 ∧ Q.length ≤ 9223372036854775807 ∧ HasS w (.slice A P.length ca) (.slice B Q.length cb) P Q := by
  obtain ⟨A, ca, rfl, ha⟩ := h.a.shape (ssv_len P)
  obtain ⟨B, cb, rfl, hb⟩ := h.b.shape rfl
  exact ⟨A, ca, B, cb, rfl, rfl, ha.len.2, hb.len.2, h⟩
/-- impl.sortOrder -/
theorem sortOrder_any (P : List (List UInt8)) (Q : List (Int × Int)) (va vb : Value) (w : World) (h : HasS w va vb P Q) :
    Calls Tryz.prog 85 #[.agg #[va, vb]] w fun e w' => ∃ mv, e = .returned mv ∧ MapU w' mv (ordU P Q) ∧ (okS P Q = true → ∃ b, mv = .map (some b)) ∧ (okS P Q = false → mv = .map none) ∧ Below w.heap.size w w' := by
  obtain ⟨A, ca, B, cb, rfl, rfl, hla, hlb, h'⟩ := h.shape
  have HH := Lib.hid h'
  have HNM := Lib.hid (fun r hr W hW => sortNames_any P h'.short _ r hr W (h'.below (Nat.le_refl _) hW).a)
  clear h h'
  cases hn : namesOk P with
  | false =>
    have hok : okS P Q = false := by rw [okS, hn]; rfl
    have HQ : Hid (ordU P Q = []) := Lib.hid (ordU_no hok)
    have HOK := Lib.hid hok
    have HN := Lib.hid (HNM.out false hn)
    clear hn hok
    go_enter Tryz.func85, Tryz.ntmps85
    go_wp2_with (go_at_call 134; refine (HN.out _ ((Below.refl _ _).alloc (Nat.le_refl _) _)).mono ?_; rintro e w1 ⟨rfl, rfl⟩)
    go_ret
    exact ⟨_, rfl, .inl ⟨rfl, HQ.out⟩, fun e => (by rw [HOK.out] at e; cases e), fun _ => rfl, (Below.refl _ _).alloc (Nat.le_refl _) _⟩
  | true =>
    have HN := Lib.hid (HNM.out true hn)
    have hP : 1 ≤ P.length ∧ P.length ≤ 8 := by simp only [namesOk, Bool.and_eq_true, decide_eq_true_eq] at hn; exact hn.1
    obtain ⟨n, hnn⟩ : ∃ n, n = P.length := ⟨_, rfl⟩
    rw [← hnn] at hla hP HN HH ⊢
    have HNN := Lib.hid hnn
    have HSB := Lib.hid (fun r hr W hW => areSubs_any n (by omega) Q HH.out.in64 _ r hr W (HH.out.below (Nat.le_refl _) hW).b)
    cases hs : subsOk n Q with
    | false =>
      have hok : okS P Q = false := by rw [okS, hn, ← hnn, hs]; rfl
      have HQ : Hid (ordU P Q = []) := Lib.hid (ordU_no hok)
      have HOK := Lib.hid hok
      have HSF := Lib.hid (HSB.out false hs)
      clear hn hok hnn hs
      go_enter Tryz.func85, Tryz.ntmps85
      go_wp2_with (first
        | (go_at_call 134; refine (HN.out _ ((Below.refl _ _).alloc (Nat.le_refl _) _)).mono ?_; rintro e w1 ⟨rfl, rfl⟩)
        | (go_at_call 135; refine (HSF.out _ ((Below.refl _ _).alloc (Nat.le_refl _) _)).mono ?_; rintro e w1 ⟨rfl, hb1⟩))
      go_ret
      exact ⟨_, rfl, .inl ⟨rfl, HQ.out⟩, fun e => (by rw [HOK.out] at e; cases e), fun _ => rfl, ((Below.refl _ _).alloc (Nat.le_refl _) _).trans (hb1.mono (by simp))⟩
    | true =>
      obtain ⟨hpin, hq16⟩ := subsOk_pin hs
      have HST := Lib.hid (HSB.out true hs)
      have HCL := Lib.hid (fun W hW => closePairs_any n (by omega) Q (by omega) hpin _ W (HH.out.below (Nat.le_refl _) hW).b)
      have hlim : Lim (clo n (prs Q)) := ⟨by rw [clo_len]; omega, fun i => by rw [clo_len]; exact clo_lt hpin.inR i⟩
      have HCI := Lib.hid (fun r hr v W hM => haveCircle_any (clo n (prs Q)) hlim v r hr W hM)
      rw [clo_len] at HCI
      have HPIN := Lib.hid hpin
      have HLIM := Lib.hid hlim
      cases hc : circ n (clo n (prs Q)) with
      | true =>
        have hok : okS P Q = false := by rw [okS, hn, ← hnn, hs, hc]; rfl
        have HQ : Hid (ordU P Q = []) := Lib.hid (ordU_no hok)
        have HOK := Lib.hid hok
        have HCT := Lib.hid (HCI.out true hc)
        clear hn hok hnn hs hc hpin hlim
        go_enter Tryz.func85, Tryz.ntmps85
        go_wp2_with (first
          | (go_at_call 134; refine (HN.out _ ((Below.refl _ _).alloc (Nat.le_refl _) _)).mono ?_; rintro e w1 ⟨rfl, rfl⟩)
          | (go_at_call 135; refine (HST.out _ ((Below.refl _ _).alloc (Nat.le_refl _) _)).mono ?_; rintro e w1 ⟨rfl, hb1⟩
             have hbw : Below w.heap.size w w1 := ((Below.refl _ _).alloc (Nat.le_refl _) _).trans (hb1.mono (by simp))
             have c0 : w1.cell? ⟨w.heap.size, 0, none⟩ = some (.slice A n ca) := by rw [hb1.cell (p := ⟨w.heap.size, 0, none⟩) (by simp)]; simp
             have c1 : w1.cell? ⟨w.heap.size, 1, none⟩ = some (.slice B Q.length cb) := by rw [hb1.cell (p := ⟨w.heap.size, 1, none⟩) (by simp)]; simp
             clear hb1)
          | (go_at_call 136; refine (HCL.out _ hbw).mono ?_; rintro e w2 ⟨b, rfl, hM, hb2⟩; have HMM := Lib.hid hM; clear hM)
          | (go_at_call 137; refine (HCT.out _ _ HMM.out).mono ?_; rintro e w3 ⟨rfl, rfl⟩))
        go_ret
        exact ⟨_, rfl, .inl ⟨rfl, HQ.out⟩, fun e => (by rw [HOK.out] at e; cases e), fun _ => rfl, hbw.trans (hb2.mono hbw.size)⟩
      | false =>
        have hok : okS P Q = true := by rw [okS, hn, ← hnn, hs, hc]; rfl
        have HQ : Hid (ordU P Q = clo n (prs Q)) := Lib.hid (by rw [ordU_yes hok, hnn])
        have HOK := Lib.hid hok
        have HCT := Lib.hid (HCI.out false hc)
        clear hn hok hnn hs hc hpin hlim
        go_enter Tryz.func85, Tryz.ntmps85
        go_wp2_with (first
          | (go_at_call 134; refine (HN.out _ ((Below.refl _ _).alloc (Nat.le_refl _) _)).mono ?_; rintro e w1 ⟨rfl, rfl⟩)
          | (go_at_call 135; refine (HST.out _ ((Below.refl _ _).alloc (Nat.le_refl _) _)).mono ?_; rintro e w1 ⟨rfl, hb1⟩
             have hbw : Below w.heap.size w w1 := ((Below.refl _ _).alloc (Nat.le_refl _) _).trans (hb1.mono (by simp))
             have c0 : w1.cell? ⟨w.heap.size, 0, none⟩ = some (.slice A n ca) := by rw [hb1.cell (p := ⟨w.heap.size, 0, none⟩) (by simp)]; simp
             have c1 : w1.cell? ⟨w.heap.size, 1, none⟩ = some (.slice B Q.length cb) := by rw [hb1.cell (p := ⟨w.heap.size, 1, none⟩) (by simp)]; simp
             clear hb1)
          | (go_at_call 136; refine (HCL.out _ hbw).mono ?_; rintro e w2 ⟨b, rfl, hM, hb2⟩; have HMM := Lib.hid hM; clear hM)
          | (go_at_call 137; refine (HCT.out _ _ HMM.out).mono ?_; rintro e w3 ⟨rfl, rfl⟩))
        go_ret
        exact ⟨_, rfl, by rw [HQ.out]; exact HMM.out, fun _ => ⟨_, rfl⟩, fun e => (by rw [HOK.out] at e; cases e), hbw.trans (hb2.mono hbw.size)⟩
end Go.Proofs.YtjejdcehlckfhaaGreat.sorti
