/-
  THE MODEL'S CompareOccurrences.
-/
import Derived.Test.YtiilamngcoegiaaOccm
import Derived.Test.YtiilamngcoegiaaBnds
namespace Go.Proofs.Ytiilamngcoegiaa.occs
open Go.ChangeShapes Go.WideShapes Go.ChangeAt Go.RowKit
open mem setm rowl trm trmv terml termb termt termu termx termv bndl bndt bnds occm

set_option maxRecDepth 20000 in
set_option maxHeartbeats 1000000 in
/-- spec.l12Paths -/
theorem sPaths_any (L M : List Int) (va vb : Value) (w : World) (ha : Has w va (ivs L)) (hb : Has w vb (ivs M)) :
    Calls Try.prog 23 #[va, vb] w fun e w' => e = .returned (.int .i64 (cmpIs L M)) ∧ Below w.heap.size w w' := by
  obtain ⟨A, ca, rfl, ha⟩ := ha.shape (ivs_len L)
  obtain ⟨B, cb, rfl, hb⟩ := hb.shape (ivs_len M)
  have hla := ha.len.2
  have hlb := hb.len.2
  have HA := Lib.hid ha
  have HB := Lib.hid hb
  obtain ⟨N, hN⟩ : ∃ N, N = L.length := ⟨_, rfl⟩
  obtain ⟨m, hm⟩ : ∃ m, m = M.length := ⟨_, rfl⟩
  rw [← hN] at HA hla ⊢
  rw [← hm] at HB hlb ⊢
  have HN := Lib.hid hN
  have HM := Lib.hid hm
  obtain ⟨z, hz⟩ : ∃ z, z = cmpIs L M := ⟨_, rfl⟩
  have HZ := Lib.hid hz
  rw [← hz]
  clear ha hb hN hm hz
  go_enter Try.func23, Try.ntmps23
  go_wp2
  go_loopw [5] (fun v5 wr => ∃ k : Nat, v5 = .int .i64 k ∧ k ≤ N ∧ k ≤ m ∧ Hid (∀ i, i < k → L.getD i 0 = M.getD i 0) ∧ Hid (Below w.heap.size w wr)) (fun i _ => N - (intOf i).toNat)
  case atStart => exact ⟨0, rfl, Nat.zero_le _, Nat.zero_le _, Lib.hid (fun i hi => by omega), Lib.hid (Below.refl _ _)⟩
  case round =>
    obtain ⟨k, rfl, hk, hkm, HQ, HG⟩ := hrel
    by_cases hlt : k < N
    · by_cases hlm : k < m
      · obtain ⟨ga, oa, rfl, hga, hca⟩ := HA.out.cellAt hlt
        obtain ⟨gb, ob, rfl, hgb, hcb⟩ := HB.out.cellAt hlm
        rw [ivs_get L k (by have := HN.out; omega), ← HG.out.cell (p := ⟨ga, oa + k, none⟩) hga] at hca
        rw [ivs_get M k (by have := HM.out; omega), ← HG.out.cell (p := ⟨gb, ob + k, none⟩) hgb] at hcb
        obtain ⟨x, hx⟩ : ∃ x, x = L.getD k 0 := ⟨_, rfl⟩
        obtain ⟨y, hy⟩ : ∃ y, y = M.getD k 0 := ⟨_, rfl⟩
        rw [← hx] at hca
        rw [← hy] at hcb
        have HX := Lib.hid hx
        have HY := Lib.hid hy
        clear hx hy
        by_cases hxy : x = y
        · subst hxy
          have HQ2 : Hid (∀ i, i < k + 1 → L.getD i 0 = M.getD i 0) := Lib.hid (fun i hi => by
            by_cases e : i = k
            · subst e; exact HX.out.symm.trans HY.out
            · exact HQ.out i (by omega))
          have hgA := HG.out
          go_wp2
          go_quiet (fail)
          go_wp2
          go_roundw
          case rel => exact ⟨k + 1, by go_num, by omega, by omega, HQ2, Lib.hid (by first | exact hgA | exact hgA.drew | exact below_drewN hgA _)⟩
          case measure => simp [intOf]; omega
        · have hne : (x != y) = true := by simpa using hxy
          have HE : Hid (z = if x < y then -1 else 1) := Lib.hid (by rw [HZ.out, cmpIs_step (by have := HN.out; omega) (by have := HM.out; omega) HQ.out (by rw [← HX.out, ← HY.out]; exact hxy), ← HX.out, ← HY.out])
          have hgA := HG.out
          clear hxy
          by_cases hl : x < y
          · have HE2 : Hid (z = -1) := Lib.hid (by rw [HE.out, if_pos hl])
            have hd : decide (x < y) = true := decide_eq_true hl
            go_wp2
            go_quiet (fail)
            go_wp2
            go_quiet (fail)
            go_wp2
            go_ret
            exact ⟨ret_int HE2.out.symm, by first | exact hgA | exact hgA.drew | exact below_drewN hgA _ | exact below_drewN (below_drewN hgA _) _⟩
          · have HE2 : Hid (z = 1) := Lib.hid (by rw [HE.out, if_neg hl])
            have hd : decide (x < y) = false := decide_eq_false hl
            go_wp2
            go_quiet (fail)
            go_wp2
            go_quiet (fail)
            go_wp2
            go_ret
            exact ⟨ret_int HE2.out.symm, by first | exact hgA | exact hgA.drew | exact below_drewN hgA _ | exact below_drewN (below_drewN hgA _) _⟩
      · obtain rfl : k = m := by omega
        have HE : Hid (z = 1) := Lib.hid (by
          rw [HZ.out, cmpIs_end (fun i hi hj => HQ.out i (by have := HM.out; omega)), if_neg (by have := HN.out; have := HM.out; omega), if_pos (by have := HN.out; have := HM.out; omega)])
        have hnl : ¬ N < k := by omega
        go_wp2
        go_ret
        exact ⟨ret_int HE.out.symm, HG.out⟩
    · obtain rfl : k = N := by omega
      by_cases hlm : k < m
      · have HE : Hid (z = -1) := Lib.hid (by
          rw [HZ.out, cmpIs_end (fun i hi hj => HQ.out i (by have := HN.out; omega)), if_pos (by have := HN.out; have := HM.out; omega)])
        go_wp2
        go_ret
        exact ⟨ret_int HE.out.symm, HG.out⟩
      · obtain rfl : k = m := by omega
        have HE : Hid (z = 0) := Lib.hid (by
          rw [HZ.out, cmpIs_end (fun i hi hj => HQ.out i (by have := HN.out; omega)), if_neg (by have := HN.out; have := HM.out; omega), if_neg (by have := HN.out; have := HM.out; omega)])
        go_wp2
        go_ret
        exact ⟨ret_int HE.out.symm, HG.out⟩
theorem cmp_args (L M : List TermM) : cmp (.mk 0 [] 0 L) (.mk 0 [] 0 M) = cmpL L M := by
  rw [cmp_mk2]; simp [cmpI, cmpB]
set_option maxRecDepth 20000 in
set_option maxHeartbeats 1000000 in
/-- spec.l12Lists -/
theorem sLists_any {n : Nat} (L M : List TermM) (va vb : Value) (w : World) {lo lo' : Nat} (ha : HasTs n lo w va L) (hb : HasTs n lo' w vb M) :
    Calls Try.prog 24 #[va, vb] w fun e w' => e = .returned (.int .i64 (cmpL L M)) ∧ Below w.heap.size w w' := by
  have HC : Hid (Calls Try.prog 40 #[.agg #[.int .i64 0, .string { data := #[] }, .int .i64 0, va], .agg #[.int .i64 0, .string { data := #[] }, .int .i64 0, vb]] w fun e w' => e = .returned (.int .i64 (cmpL L M)) ∧ Below w.heap.size w w') := Lib.hid (by
    rw [← cmp_args]
    exact scmp_any (.mk 0 [] 0 L) (.mk 0 [] 0 M) va vb w ha hb)
  obtain ⟨A, ca, rfl, _⟩ := HasR.shape ha rfl
  obtain ⟨B, cb, rfl, _⟩ := HasR.shape hb rfl
  obtain ⟨z, hz⟩ : ∃ z, z = cmpL L M := ⟨_, rfl⟩
  obtain ⟨k, hk⟩ : ∃ k, k = L.length := ⟨_, rfl⟩
  obtain ⟨m, hm⟩ : ∃ m, m = M.length := ⟨_, rfl⟩
  rw [← hz, ← hk, ← hm] at HC
  rw [← hz, ← hk, ← hm]
  clear ha hb hz hk hm
  go_enter Try.func24, Try.ntmps24
  go_wp2_with fail
  refine HC.out.mono ?_
  rintro e w1 ⟨rfl, hb1⟩
  clear HC
  go_wp2
  go_ret
  exact ⟨rfl, hb1⟩
set_option maxRecDepth 20000 in
set_option maxHeartbeats 1000000 in
/-- spec.CompareOccurrences -/
theorem sCompareO_any {n : Nat} (o p : OccM) (v0 v1 v2 v3 u0 u1 u2 u3 : Value) (w : World) {lo lo' : Nat} (h : HasOc n lo w v0 v1 v2 v3 o) (h' : HasOc n lo' w u0 u1 u2 u3 p) :
    Calls Try.prog 6 #[.agg #[v0, v1, v2, v3], .agg #[u0, u1, u2, u3]] w fun e w' => e = .returned (.int .i64 (cmpO o p)) ∧ Below w.heap.size w w' := by
  have H0 := Lib.hid (fun W (hW : Below w.heap.size w W) => sPaths_any o.path p.path v0 u0 W (h.1.has.below (Nat.le_refl _) hW) (h'.1.has.below (Nat.le_refl _) hW))
  have H1 := Lib.hid (fun W (hW : Below w.heap.size w W) => sLists_any o.left p.left v1 u1 W (h.2.1.below (Nat.le_refl _) hW) (h'.2.1.below (Nat.le_refl _) hW))
  have H2 := Lib.hid (fun W (hW : Below w.heap.size w W) => sLists_any o.right p.right v2 u2 W (h.2.2.1.below (Nat.le_refl _) hW) (h'.2.2.1.below (Nat.le_refl _) hW))
  have H3 := Lib.hid (fun W (hW : Below w.heap.size w W) => sCompareS_any o.m p.m v3 u3 W (h.2.2.2.below (Nat.le_refl _) hW) (h'.2.2.2.below (Nat.le_refl _) hW))
  obtain ⟨A0, c0, A1, c1, A2, c2, A3, c3, rfl, rfl, rfl, rfl⟩ := h.shape
  obtain ⟨B0, b0, B1, b1, B2, b2, B3, b3, rfl, rfl, rfl, rfl⟩ := h'.shape
  obtain ⟨k0, hk0⟩ : ∃ q, q = o.path.length := ⟨_, rfl⟩
  obtain ⟨m0, hm0⟩ : ∃ q, q = p.path.length := ⟨_, rfl⟩
  rw [← hk0, ← hm0] at H0 ⊢
  obtain ⟨k1, hk1⟩ : ∃ q, q = o.left.length := ⟨_, rfl⟩
  obtain ⟨m1, hm1⟩ : ∃ q, q = p.left.length := ⟨_, rfl⟩
  rw [← hk1, ← hm1] at H1 ⊢
  obtain ⟨k2, hk2⟩ : ∃ q, q = o.right.length := ⟨_, rfl⟩
  obtain ⟨m2, hm2⟩ : ∃ q, q = p.right.length := ⟨_, rfl⟩
  rw [← hk2, ← hm2] at H2 ⊢
  obtain ⟨k3, hk3⟩ : ∃ q, q = o.m.length := ⟨_, rfl⟩
  obtain ⟨m3, hm3⟩ : ∃ q, q = p.m.length := ⟨_, rfl⟩
  rw [← hk3, ← hm3] at H3 ⊢
  obtain ⟨z0, hz0⟩ : ∃ q, q = cmpIs o.path p.path := ⟨_, rfl⟩
  rw [← hz0] at H0
  obtain ⟨z1, hz1⟩ : ∃ q, q = cmpL o.left p.left := ⟨_, rfl⟩
  rw [← hz1] at H1
  obtain ⟨z2, hz2⟩ : ∃ q, q = cmpL o.right p.right := ⟨_, rfl⟩
  rw [← hz2] at H2
  obtain ⟨z3, hz3⟩ : ∃ q, q = cmpQs o.m p.m := ⟨_, rfl⟩
  rw [← hz3] at H3
  have HZ : Hid (cmpO o p = if z0 ≠ 0 then z0 else if z1 ≠ 0 then z1 else if z2 ≠ 0 then z2 else z3) := Lib.hid (by rw [hz0, hz1, hz2, hz3]; rfl)
  obtain ⟨z, hz⟩ : ∃ q, q = cmpO o p := ⟨_, rfl⟩
  rw [← hz] at HZ ⊢
  obtain ⟨W, hW⟩ : ∃ W, W = (w.alloc (.cells #[.slice A0 k0 c0, .slice A1 k1 c1, .slice A2 k2 c2, .slice A3 k3 c3] 32)).alloc (.cells #[.slice B0 m0 b0, .slice B1 m1 b1, .slice B2 m2 b2, .slice B3 m3 b3] 32) := ⟨_, rfl⟩
  have hb0 : Below w.heap.size w W := by rw [hW]; exact ((Below.refl _ _).alloc (Nat.le_refl _) _).alloc (by simp) _
  have hp : W.heap[w.heap.size]? = some (.cells #[.slice A0 k0 c0, .slice A1 k1 c1, .slice A2 k2 c2, .slice A3 k3 c3] 32 (0, 0)) := by rw [hW]; exact (Below.heap_alloc _ _ _ (by simp)).trans (heap_at _ _ _ rfl)
  have hq : W.heap[w.heap.size + 1]? = some (.cells #[.slice B0 m0 b0, .slice B1 m1 b1, .slice B2 m2 b2, .slice B3 m3 b3] 32 (0, 0)) := by rw [hW]; exact heap_at _ _ _ (by simp)
  have HP0 := Lib.hid hp
  have HQ0 := Lib.hid hq
  have HB0 := Lib.hid hb0
  obtain ⟨x0, x1, x2, x3⟩ := four4 hp
  obtain ⟨y0, y1, y2, y3⟩ := four4 hq
  clear h h' hk0 hk1 hk2 hk3 hm0 hm1 hm2 hm3 hz0 hz1 hz2 hz3 hz hb0 hp hq
  go_enter Try.func6, Try.ntmps6
  go_wp2_with fail
  rw [← hW]
  clear hW
  refine (H0.out W HB0.out).mono ?_
  rintro e w1 ⟨rfl, hb⟩
  have HB1 := Lib.hid (HB0.out.trans (hb.mono HB0.out.size))
  have hp := (hb.block _ (Array.getElem?_eq_some_iff.1 HP0.out).1).trans HP0.out
  have hq := (hb.block _ (Array.getElem?_eq_some_iff.1 HQ0.out).1).trans HQ0.out
  have HP1 := Lib.hid hp
  have HQ1 := Lib.hid hq
  clear x0 x1 x2 x3 y0 y1 y2 y3
  obtain ⟨x0, x1, x2, x3⟩ := four4 hp
  obtain ⟨y0, y1, y2, y3⟩ := four4 hq
  clear hb hp hq
  by_cases e0 : z0 = 0
  · subst e0
    go_wp2_with fail
    refine (H1.out w1 HB1.out).mono ?_
    rintro e w2 ⟨rfl, hb⟩
    have HB2 := Lib.hid (HB1.out.trans (hb.mono HB1.out.size))
    have hp := (hb.block _ (Array.getElem?_eq_some_iff.1 HP1.out).1).trans HP1.out
    have hq := (hb.block _ (Array.getElem?_eq_some_iff.1 HQ1.out).1).trans HQ1.out
    have HP2 := Lib.hid hp
    have HQ2 := Lib.hid hq
    clear x0 x1 x2 x3 y0 y1 y2 y3
    obtain ⟨x0, x1, x2, x3⟩ := four4 hp
    obtain ⟨y0, y1, y2, y3⟩ := four4 hq
    clear hb hp hq
    by_cases e1 : z1 = 0
    · subst e1
      go_wp2_with fail
      refine (H2.out w2 HB2.out).mono ?_
      rintro e w3 ⟨rfl, hb⟩
      have HB3 := Lib.hid (HB2.out.trans (hb.mono HB2.out.size))
      have hp := (hb.block _ (Array.getElem?_eq_some_iff.1 HP2.out).1).trans HP2.out
      have hq := (hb.block _ (Array.getElem?_eq_some_iff.1 HQ2.out).1).trans HQ2.out
      have HP3 := Lib.hid hp
      have HQ3 := Lib.hid hq
      clear x0 x1 x2 x3 y0 y1 y2 y3
      obtain ⟨x0, x1, x2, x3⟩ := four4 hp
      obtain ⟨y0, y1, y2, y3⟩ := four4 hq
      clear hb hp hq
      by_cases e2 : z2 = 0
      · subst e2
        go_wp2_with fail
        refine (H3.out w3 HB3.out).mono ?_
        rintro e w4 ⟨rfl, hb⟩
        have HB4 := Lib.hid (HB3.out.trans (hb.mono HB3.out.size))
        clear hb x0 x1 x2 x3 y0 y1 y2 y3
        go_wp2
        go_ret
        exact ⟨ret_int (by rw [HZ.out]; simp), HB4.out⟩
      · have HE : Hid (z = z2) := Lib.hid (by rw [HZ.out]; simp [e2])
        have nz : (z2 != 0) = true := by simpa using e2
        have ez : (z2 == 0) = false := by simpa using e2
        go_wp2
        go_ret
        exact ⟨ret_int HE.out.symm, HB3.out⟩
    · have HE : Hid (z = z1) := Lib.hid (by rw [HZ.out]; simp [e1])
      have nz : (z1 != 0) = true := by simpa using e1
      have ez : (z1 == 0) = false := by simpa using e1
      go_wp2
      go_ret
      exact ⟨ret_int HE.out.symm, HB2.out⟩
  · have HE : Hid (z = z0) := Lib.hid (by rw [HZ.out]; simp [e0])
    have nz : (z0 != 0) = true := by simpa using e0
    have ez : (z0 == 0) = false := by simpa using e0
    go_wp2
    go_ret
    exact ⟨ret_int HE.out.symm, HB1.out⟩
end Go.Proofs.Ytiilamngcoegiaa.occs
