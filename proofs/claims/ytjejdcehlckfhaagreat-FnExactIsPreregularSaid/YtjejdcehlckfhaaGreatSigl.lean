/-
  THE MODEL's FUNCTIONS OF SIGNATURES: l4Arity, l4Decls.
-/
import Derived.Test.YtjejdcehlckfhaaGreatSigr
import Derived.Test.YtjejdcehlckfhaaGreatSortg
namespace Go.Proofs.YtjejdcehlckfhaaGreat.sigl
open Go.ChangeShapes Go.WideShapes Go.ChangeAt Go.RowKit
open mem split strl join subs sortn setm sets sortm sortp sorti sortf sortu sortg rowl sigm sigs sigi sigj

/-- spec.l4Arity -/
theorem l4Arity_any (l : List UInt8) (D : List (List Int × Int)) (hD : 1 ≤ D.length) (v : Value) (a b : Bool) (u : Int) (w : World) {lo : Nat} (h : HasD lo w v D) :
    Calls Tryz.prog 101 #[.agg #[.string (bstr l), v, .bool a, .bool b, .int .i64 u]] w fun e w' => e = .returned (.int .i64 ((hd0 D).1.length : Int)) ∧ Below w.heap.size w w' := by
  obtain ⟨A, c, rfl, h⟩ := HasR.shape h rfl
  obtain ⟨g, o, A2, c2, rfl, _, hg, hc0, hc1, hh, _, _⟩ := decl_at h (j := 0) (by omega)
  have hd : D.getD 0 default = hd0 D := rfl
  rw [hd, show o + 0 * 2 = o by omega] at hc0
  rw [hd] at hh
  have hl := hh.has.len.2
  have hln := h.len.2.1
  obtain ⟨m, hm⟩ : ∃ m, m = (hd0 D).1.length := ⟨_, rfl⟩
  rw [← hm] at hc0 hl ⊢
  obtain ⟨n, hn⟩ : ∃ n, n = D.length := ⟨_, rfl⟩
  rw [← hn] at hD hln ⊢
  clear h hh hd hm hc1 hn
  go_enter Tryz.func101, Tryz.ntmps101
  go_wp2
  go_ret
  exact ⟨rfl, (Below.refl _ _).alloc (Nat.le_refl _) _⟩
theorem kD_point {κ : Int → Nat} {l m : List Int} {x y : Int} : kD κ (l, x) = kD κ (m, y) ↔ l.length = m.length ∧ (∀ q, q < l.length → κ (l.getD q 0) = κ (m.getD q 0)) ∧ κ x = κ y := by
  simp only [kD, Prod.mk.injEq]
  constructor
  · rintro ⟨h1, h2⟩
    have hl : l.length = m.length := by have := congrArg List.length h1; simpa using this
    refine ⟨hl, fun q hq => ?_, h2⟩
    have h3 : (l.map κ)[q]? = (m.map κ)[q]? := by rw [h1]
    simp only [List.getElem?_map, List.getElem?_eq_getElem hq, List.getElem?_eq_getElem (show q < m.length by omega), Option.map_some, Option.some.injEq] at h3
    simpa [List.getD, List.getElem?_eq_getElem hq, List.getElem?_eq_getElem (show q < m.length by omega)] using h3
  · rintro ⟨hl, h1, h2⟩
    refine ⟨List.ext_getElem (by simpa using hl) (fun q hq1 hq2 => ?_), h2⟩
    have hq : q < l.length := by simpa using hq1
    have := h1 q hq
    simpa [List.getD, List.getElem?_eq_getElem hq, List.getElem?_eq_getElem (show q < m.length by omega)] using this
theorem inI_inN {n : Nat} {x : Int} : inI x 0 ((n : Int) - 1) = inN n x := by
  simp only [inI, inN, decide_eq_decide]; omega
set_option maxRecDepth 20000 in
set_option maxHeartbeats 8000000 in
/-- spec.l4Decls -/
theorem l4Decls_any (P : List (List UInt8)) (Q : List (Int × Int)) (hok : okS P Q = true) (va vb : Value) (C : Option Addr) (oc cc : Nat) (nm : List UInt8) (D : List (List Int × Int)) (vd : Value) (a b : Bool) (u : Int) (r : Bool) (hr : declsOk P.length (κK P.length Q) D = r) (w : World) {lo : Nat} (hS : HasS w va vb P Q) (hD : HasD lo w vd D) :
    Calls Tryz.prog 99 #[.agg #[va, vb, .slice C oc cc], .agg #[.string (bstr nm), vd, .bool a, .bool b, .int .i64 u]] w fun e w' => e = .returned (.bool r) ∧ Below w.heap.size w w' := by
  obtain ⟨p1, p2, p3, p4, p5⟩ := okS_parts hok
  have HKI := Lib.hid (fun W (hW : Below w.heap.size w W) => l3Kinds_any P Q p1 p2 (by omega) p3 (ok_ne hok) va vb W (hS.below (Nat.le_refl _) hW))
  have hKl : (kin P.length (prs Q)).length = P.length := kin_len _ _
  obtain ⟨n, hn⟩ : ∃ n, n = P.length := ⟨_, rfl⟩
  have HNP := Lib.hid hn
  obtain ⟨A, ca, B, cb, rfl, rfl, hla, hlb, _⟩ := hS.shape
  rw [← hn] at hr HKI hKl p1 p2 p3 ⊢
  obtain ⟨K, hK⟩ : ∃ K, K = kin n (prs Q) := ⟨_, rfl⟩
  have hκ : ∀ x, κK n Q x = K.getD x.toNat 0 := fun x => by rw [κK, hK]
  rw [← hK] at HKI hKl
  obtain ⟨κ, hκd⟩ : ∃ κ, κ = κK n Q := ⟨_, rfl⟩
  rw [← hκd] at hr hκ
  have HKAP := Lib.hid hκ
  clear hS hok p3 p4 p5 hn hK hκd hκ
  obtain ⟨dn, hdn⟩ : ∃ dn, dn = D.length := ⟨_, rfl⟩
  obtain ⟨E, ce, rfl, hD⟩ := HasR.shape hD hdn.symm
  have hdl := hD.len.2.1
  have HN := Lib.hid hdn
  have HR := Lib.hid hr
  clear hdn hr
  by_cases hlo : dn < 1
  · have HR2 : Hid (r = false) := Lib.hid (by rw [← HR.out, declsOk]; have := HN.out; simp; omega)
    clear hD
    go_enter Tryz.func99, Tryz.ntmps99
    go_wp2
    go_ret
    exact ⟨ret_bool HR2.out.symm, ((Below.refl _ _).alloc (Nat.le_refl _) _).alloc (by simp) _⟩
  by_cases hhi : 4 < dn
  · have HR2 : Hid (r = false) := Lib.hid (by rw [← HR.out, declsOk]; have := HN.out; simp; omega)
    clear hD
    go_enter Tryz.func99, Tryz.ntmps99
    go_wp2
    go_ret
    exact ⟨ret_bool HR2.out.symm, ((Below.refl _ _).alloc (Nat.le_refl _) _).alloc (by simp) _⟩
  obtain ⟨g, o, A2, c2, rfl, _, hg, hc0, hc1, hh, hi1, hi2⟩ := decl_at hD (j := 0) (by omega)
  have hd : D.getD 0 default = hd0 D := rfl
  rw [hd, show o + 0 * 2 = o by omega] at hc0 hc1
  rw [hd] at hh hi1 hi2
  have hml := hh.has.len.2
  obtain ⟨L0, hL0⟩ : ∃ L, L = (hd0 D).1 := ⟨_, rfl⟩
  obtain ⟨x0, hx0⟩ : ∃ x, x = (hd0 D).2 := ⟨_, rfl⟩
  have HHD : Hid (hd0 D = (L0, x0)) := Lib.hid (by rw [hL0, hx0])
  rw [← hL0] at hc0 hh hml
  rw [← hx0] at hc1
  obtain ⟨m, hm⟩ : ∃ m, m = L0.length := ⟨_, rfl⟩
  rw [← hm] at hc0 hh hml
  have HM := Lib.hid hm
  have HHL := Lib.hid hh.has
  have HHDD := Lib.hid hD
  clear hd hL0 hx0 hh hi1 hi2 hm hD
  by_cases hm3 : 3 < m
  · have HR2 : Hid (r = false) := Lib.hid (by
      rw [← HR.out]
      refine declsOk_bad (j := 0) (by have := HN.out; omega) (.inl ?_)
      have e : D.getD 0 default = hd0 D := rfl
      rw [e, HHD.out, okD]
      have := HM.out
      simp; omega)
    go_enter Tryz.func99, Tryz.ntmps99
    go_wp2
    go_ret
    exact ⟨ret_bool HR2.out.symm, ((Below.refl _ _).alloc (Nat.le_refl _) _).alloc (by simp) _⟩
  go_enter Tryz.func99, Tryz.ntmps99
  go_wp2_with fail
  refine (HKI.out _ (((Below.refl _ _).alloc (Nat.le_refl _) _).alloc (by simp) _)).mono ?_
  rintro e w1 ⟨kv, rfl, hkv, hb1⟩
  obtain ⟨KA, kc, rfl, hkh⟩ := (Has.of_own hkv).shape (n := n) (by rw [ivs_len, nats_len]; exact hKl)
  have hbw1 : Below w.heap.size w w1 := (((Below.refl _ _).alloc (Nat.le_refl _) _).alloc (by simp) _).trans (hb1.mono (by simp; omega))
  have e1 : w1.cell? ⟨w.heap.size + 1, 1, none⟩ = some (.slice (some ⟨g, o, none⟩) dn ce) := by rw [hb1.cell (p := ⟨w.heap.size + 1, 1, none⟩) (by simp)]; simp
  have hs1 : w.heap.size + 1 < w1.heap.size := by have := hb1.size; simp at this; omega
  have HKH := Lib.hid hkh
  clear hkv hb1 hkh
  rw [← hbw1.cell (p := ⟨g, o, none⟩) hg] at hc0
  rw [← hbw1.cell (p := ⟨g, o + 1, none⟩) hg] at hc1
  go_wp2_with fail
  generalize hW3 : w1.alloc (.cells #[.slice A2 m c2, .int .i64 x0] 191) = W3
  have hb13 : Below w1.heap.size w1 W3 := by rw [← hW3]; exact (Below.refl _ _).alloc (Nat.le_refl _) _
  have hs3 : W3.heap.size = w1.heap.size + 1 := by rw [← hW3]; simp
  have hbw3 : Below w.heap.size w W3 := hbw1.trans (hb13.mono hbw1.size)
  have f0 : W3.cell? ⟨w1.heap.size, 0, none⟩ = some (.slice A2 m c2) := by rw [← hW3]; simp
  have f1 : W3.cell? ⟨w1.heap.size, 1, none⟩ = some (.int .i64 x0) := by rw [← hW3]; simp
  have E1 : W3.cell? ⟨w.heap.size + 1, 1, none⟩ = some (.slice (some ⟨g, o, none⟩) dn ce) := (hb13.cell (by exact hs1)).trans e1
  have HK3 := Lib.hid (HKH.out.below (Nat.le_refl _) hb13)
  have HL3 := Lib.hid (HHL.out.below (Nat.le_refl _) hbw3)
  have HD3 := Lib.hid (HHDD.out.below RD_steady (Nat.le_refl _) hbw3)
  have HBW3 := Lib.hid hbw3
  clear hc0 hc1 e1 hW3 hb13 hbw3 hbw1
  go_loopw [7] (fun i wr => ∃ k : Nat, k ≤ dn ∧ i = .int .i64 k ∧ Hid (∀ j, j < k → okD n (D.getD j default) = true ∧ kD κ (D.getD j default) = kD κ (hd0 D)) ∧ Below W3.heap.size W3 wr) (fun i _ => dn - (intOf i).toNat)
  case atStart => exact ⟨0, Nat.zero_le _, rfl, Lib.hid (fun j hj => by omega), Below.refl _ _⟩
  case round =>
    obtain ⟨k, hk, rfl, HALL, hbel⟩ := hrel
    have hszr := hbel.size
    have hzr : w1.heap.size < wr.heap.size := by omega
    have hzr0 : w.heap.size + 1 < wr.heap.size := by omega
    have E1r : wr.cell? ⟨w.heap.size + 1, 1, none⟩ = some (.slice (some ⟨g, o, none⟩) dn ce) := (hbel.cell (by show w.heap.size + 1 < W3.heap.size; omega)).trans E1
    have f0r : wr.cell? ⟨w1.heap.size, 0, none⟩ = some (.slice A2 m c2) := (hbel.cell (by show w1.heap.size < W3.heap.size; omega)).trans f0
    have f1r : wr.cell? ⟨w1.heap.size, 1, none⟩ = some (.int .i64 x0) := (hbel.cell (by show w1.heap.size < W3.heap.size; omega)).trans f1
    by_cases hlt : k < dn
    · obtain ⟨g', o', A3, c3, hge, _, hg', hc0, hc1, hh, hi1, hi2⟩ := decl_at HD3.out hlt
      simp only [Option.some.injEq, Addr.mk.injEq, and_true] at hge
      obtain ⟨rfl, rfl⟩ := hge
      rw [← hbel.cell (p := ⟨g, o + k * 2, none⟩) hg'] at hc0
      rw [← hbel.cell (p := ⟨g, o + k * 2 + 1, none⟩) hg'] at hc1
      have HBAD : Hid (okD n (D.getD k default) = false ∨ ¬ kD κ (D.getD k default) = kD κ (hd0 D) → r = false) := Lib.hid (fun hb => by rw [← HR.out]; exact declsOk_bad (by have := HN.out; omega) hb)
      have HGOOD : Hid (okD n (D.getD k default) = true → kD κ (D.getD k default) = kD κ (hd0 D) → ∀ j, j < k + 1 → okD n (D.getD j default) = true ∧ kD κ (D.getD j default) = kD κ (hd0 D)) := Lib.hid (fun h1 h2 j hj => by
        by_cases e : j = k
        · subst e; exact ⟨h1, h2⟩
        · exact HALL.out j (by omega))
      have HFST : Hid (k = 0 ∨ okD n (L0, x0) = true) := Lib.hid (by
        by_cases e : k = 0
        · exact .inl e
        · have := (HALL.out 0 (by omega)).1
          have e2 : D.getD 0 default = hd0 D := rfl
          rw [e2, HHD.out] at this
          exact .inr this)
      have HEQ0 : Hid (k = 0 → D.getD k default = (L0, x0)) := Lib.hid (fun e => by subst e; rw [← HHD.out]; rfl)
      rw [HHD.out] at HBAD HGOOD
      obtain ⟨⟨l, x⟩, hd⟩ : ∃ d, d = D.getD k default := ⟨_, rfl⟩
      rw [← hd] at hc0 hc1 hh hi1 hi2 HBAD HGOOD HEQ0
      have hli := hh.has.len.2
      obtain ⟨m2, hm2⟩ : ∃ m2, m2 = l.length := ⟨_, rfl⟩
      rw [← hm2] at hc0 hh hli
      have HM2 := Lib.hid hm2
      have HHR := Lib.hid hh.has
      have HI := Lib.hid (And.intro hi1 hi2)
      clear hh hi1 hi2 hd hm2
      by_cases hlen : m2 = m
      · subst hlen
        have HLI := Lib.hid (fun (y : Int) r hr W => l1In_any y 0 ((n : Int) - 1) r hr W)
        simp only [inI_inN] at HLI
        cases hin : inN n x with
        | false =>
          have HR2 := Lib.hid (HBAD.out (.inl (by simp [okD, hin])))
          have HL1 := Lib.hid (fun W => HLI.out x false hin W)
          clear hin
          go_wp2_with fail
          refine (HL1.out _).mono ?_
          rintro e w2 ⟨rfl, rfl⟩
          go_wp2
          go_ret
          exact ⟨ret_bool HR2.out.symm, (HBW3.out.trans (hbel.mono HBW3.out.size)).alloc (by have := HBW3.out.size; omega) _⟩
        | true =>
          have HL1 := Lib.hid (fun W => HLI.out x true hin W)
          have HINX := Lib.hid hin
          clear hin
          go_wp2_with fail
          refine (HL1.out _).mono ?_
          rintro e w2 ⟨rfl, rfl⟩
          go_wp2_with fail
          generalize hW8 : wr.alloc (.cells #[.slice A3 m2 c3, .int .i64 x] 191) = W8
          have hb38 : Below W3.heap.size W3 W8 := by rw [← hW8]; exact hbel.alloc hszr _
          have hs8 : W8.heap.size = wr.heap.size + 1 := by rw [← hW8]; simp
          have h0 : W8.cell? ⟨wr.heap.size, 0, none⟩ = some (.slice A3 m2 c3) := by rw [← hW8]; simp
          have h1 : W8.cell? ⟨wr.heap.size, 1, none⟩ = some (.int .i64 x) := by rw [← hW8]; simp
          have F0 : W8.cell? ⟨w1.heap.size, 0, none⟩ = some (.slice A2 m2 c2) := (hb38.cell (by show w1.heap.size < W3.heap.size; omega)).trans f0
          have F1 : W8.cell? ⟨w1.heap.size, 1, none⟩ = some (.int .i64 x0) := (hb38.cell (by show w1.heap.size < W3.heap.size; omega)).trans f1
          have HK8 := Lib.hid (HK3.out.below (Nat.le_refl _) hb38)
          have HL8 := Lib.hid (HL3.out.below (Nat.le_refl _) hb38)
          have HR8 := Lib.hid (HHR.out.below (Nat.le_refl _) hb38)
          have HB38 := Lib.hid hb38
          have h8z : W3.heap.size ≤ W8.heap.size := hb38.size
          clear hW8 hb38 E1r f0r f1r hc0 hc1
          obtain ⟨wo, rfl⟩ : ∃ wo, wo = wr := ⟨wr, rfl⟩
          go_loopw [9] (fun i wr => ∃ q : Nat, q ≤ m2 ∧ i = .int .i64 q ∧ Hid (∀ j, j < q → inN n (l.getD j 0) = true ∧ κ (l.getD j 0) = κ (L0.getD j 0)) ∧ Below W8.heap.size W8 wr) (fun i _ => m2 - (intOf i).toNat)
          case atStart => exact ⟨0, Nat.zero_le _, rfl, Lib.hid (fun j hj => by omega), Below.refl _ _⟩
          case round =>
            obtain ⟨q, hq, rfl, HPT, hbq⟩ := hrel
            have h0q : wr.cell? ⟨wo.heap.size, 0, none⟩ = some (.slice A3 m2 c3) := (hbq.cell (by show wo.heap.size < W8.heap.size; omega)).trans h0
            have h1q : wr.cell? ⟨wo.heap.size, 1, none⟩ = some (.int .i64 x) := (hbq.cell (by show wo.heap.size < W8.heap.size; omega)).trans h1
            have F0q : wr.cell? ⟨w1.heap.size, 0, none⟩ = some (.slice A2 m2 c2) := (hbq.cell (by show w1.heap.size < W8.heap.size; omega)).trans F0
            have F1q : wr.cell? ⟨w1.heap.size, 1, none⟩ = some (.int .i64 x0) := (hbq.cell (by show w1.heap.size < W8.heap.size; omega)).trans F1
            have HFIN : Hid (Below w.heap.size w wr) := Lib.hid ((HBW3.out.trans (HB38.out.mono HBW3.out.size)).trans (hbq.mono (by have := HBW3.out.size; omega)))
            by_cases hqt : q < m2
            · obtain ⟨gl, ol, rfl, hgl, hcl⟩ := HR8.out.cellAt hqt
              obtain ⟨gm, om, rfl, hgm, hcm⟩ := HL8.out.cellAt hqt
              rw [ivs_get l q (by have := HM2.out; omega), ← hbq.cell (p := ⟨gl, ol + q, none⟩) hgl] at hcl
              rw [ivs_get L0 q (by have := HM.out; omega), ← hbq.cell (p := ⟨gm, om + q, none⟩) hgm] at hcm
              have HFZ : Hid (inN n (l.getD q 0) = true → inN n (L0.getD q 0) = true) := Lib.hid (fun hy => by
                by_cases e : k = 0
                · have e2 := HEQ0.out e
                  rw [Prod.mk.injEq] at e2
                  rw [← e2.1]; exact hy
                · have h3 := HFST.out
                  rcases h3 with h3 | h3
                  · exact absurd h3 e
                  · exact (okD_parts h3).2.2 q (by have := HM.out; show q < L0.length; omega))
              have HB1 : Hid (inN n (l.getD q 0) = false ∨ ¬ κ (l.getD q 0) = κ (L0.getD q 0) → r = false) := Lib.hid (fun hb => by
                rcases hb with hb | hb
                · exact HBAD.out (.inl (okD_bad (by have := HM2.out; omega) hb))
                · exact HBAD.out (.inr (fun e => hb ((kD_point.1 e).2.1 q (by have := HM2.out; omega)))))
              have HPT2 : Hid (inN n (l.getD q 0) = true → κ (l.getD q 0) = κ (L0.getD q 0) → ∀ j, j < q + 1 → inN n (l.getD j 0) = true ∧ κ (l.getD j 0) = κ (L0.getD j 0)) := Lib.hid (fun a1 a2 j hj => by
                by_cases e : j = q
                · subst e; exact ⟨a1, a2⟩
                · exact HPT.out j (by omega))
              obtain ⟨y, hy⟩ : ∃ y, y = l.getD q 0 := ⟨_, rfl⟩
              obtain ⟨z, hz⟩ : ∃ z, z = L0.getD q 0 := ⟨_, rfl⟩
              rw [← hy] at hcl HFZ HB1 HPT2
              rw [← hz] at hcm HFZ HB1 HPT2
              clear hy hz
              cases hyn : inN n y with
              | false =>
                have HR2 := Lib.hid (HB1.out (.inl hyn))
                have HL2 := Lib.hid (fun W => HLI.out y false hyn W)
                clear hyn
                go_wp2
                go_quiet ((go_at_call 141; exact (HL2.out _).mono (fun _ _ h => ⟨h.1, _, h.2.symm⟩)))
                go_wp2
                go_ret
                exact ⟨ret_bool HR2.out.symm, by first | exact HFIN.out | exact below_drewN HFIN.out _⟩
              | true =>
                have HL2 := Lib.hid (fun W => HLI.out y true hyn W)
                have hzn := HFZ.out hyn
                have HY := Lib.hid hyn
                have hyn2 : 0 ≤ y ∧ y < n := by simpa [inN] using hyn
                have hzn2 : 0 ≤ z ∧ z < n := by simpa [inN] using hzn
                obtain ⟨yn, rfl⟩ : ∃ yn : Nat, y = (yn : Int) := ⟨y.toNat, by omega⟩
                obtain ⟨zn, rfl⟩ : ∃ zn : Nat, z = (zn : Int) := ⟨z.toNat, by omega⟩
                obtain ⟨gk, ok, rfl, hgk, hky⟩ := HK8.out.cellAt (j := yn) (by omega)
                obtain ⟨gk2, ok2, hge, _, hkz⟩ := HK8.out.cellAt (j := zn) (by omega)
                simp only [Option.some.injEq, Addr.mk.injEq, and_true] at hge
                obtain ⟨rfl, rfl⟩ := hge
                rw [ivs_get _ yn (by rw [nats_len]; omega), nats_get, ← hbq.cell (p := ⟨gk, ok + yn, none⟩) hgk] at hky
                rw [ivs_get _ zn (by rw [nats_len]; omega), nats_get, ← hbq.cell (p := ⟨gk, ok + zn, none⟩) hgk] at hkz
                have HKY : Hid (κ (yn : Int) = K.getD yn 0) := Lib.hid (by rw [HKAP.out]; rfl)
                have HKZ : Hid (κ (zn : Int) = K.getD zn 0) := Lib.hid (by rw [HKAP.out]; rfl)
                obtain ⟨ky, hky'⟩ : ∃ ky, ky = K.getD yn 0 := ⟨_, rfl⟩
                obtain ⟨kz, hkz'⟩ : ∃ kz, kz = K.getD zn 0 := ⟨_, rfl⟩
                rw [← hky'] at hky HKY
                rw [← hkz'] at hkz HKZ
                have hyl : yn < n := by omega
                have hzl : zn < n := by omega
                clear hyn hzn hyn2 hzn2 hky' hkz'
                by_cases he : ky = kz
                · subst he
                  have HP := Lib.hid (HPT2.out HY.out (by rw [HKY.out, HKZ.out]))
                  go_wp2
                  go_quiet ((go_at_call 141; exact (HL2.out _).mono (fun _ _ h => ⟨h.1, _, h.2.symm⟩)))
                  go_wp2
                  go_roundw
                  case rel => exact ⟨q + 1, by omega, by go_num, HP, by first | exact hbq | exact below_drewN hbq _⟩
                  case measure => simp [intOf]; omega
                · have hne : ((ky : Int) != (kz : Int)) = true := by simp; omega
                  have HR2 := Lib.hid (HB1.out (.inr (by rw [HKY.out, HKZ.out]; exact he)))
                  clear he
                  go_wp2
                  go_quiet ((go_at_call 141; exact (HL2.out _).mono (fun _ _ h => ⟨h.1, _, h.2.symm⟩)))
                  go_wp2
                  go_ret
                  exact ⟨ret_bool HR2.out.symm, by first | exact HFIN.out | exact below_drewN HFIN.out _⟩
            · obtain rfl : q = m2 := by omega
              have hx0 : inN n x0 = true := by
                by_cases e : k = 0
                · have e2 := HEQ0.out e
                  rw [Prod.mk.injEq] at e2
                  rw [← e2.2]; exact HINX.out
                · rcases HFST.out with h3 | h3
                  · exact absurd h3 e
                  · exact (okD_parts h3).2.1
              have hx2 : 0 ≤ x ∧ x < n := by simpa [inN] using HINX.out
              have hx02 : 0 ≤ x0 ∧ x0 < n := by simpa [inN] using hx0
              have HOKD : Hid (okD n (l, x) = true) := Lib.hid (okD_good (by have := HM2.out; omega) HINX.out (fun j hj => (HPT.out j (by have := HM2.out; omega)).1))
              have HKK : Hid (κ x = κ x0 → kD κ (l, x) = kD κ (L0, x0)) := Lib.hid (fun e => kD_point.2 ⟨by have := HM2.out; have := HM.out; omega, fun j hj => (HPT.out j (by have := HM2.out; omega)).2, e⟩)
              have HKB : Hid (¬ κ x = κ x0 → r = false) := Lib.hid (fun hb => HBAD.out (.inr (fun e => hb (kD_point.1 e).2.2)))
              obtain ⟨xn, rfl⟩ : ∃ xn : Nat, x = (xn : Int) := ⟨x.toNat, by omega⟩
              obtain ⟨xn0, rfl⟩ : ∃ xn0 : Nat, x0 = (xn0 : Int) := ⟨x0.toNat, by omega⟩
              obtain ⟨gk, ok, rfl, hgk, hky⟩ := HK8.out.cellAt (j := xn) (by omega)
              obtain ⟨gk2, ok2, hge, _, hkz⟩ := HK8.out.cellAt (j := xn0) (by omega)
              simp only [Option.some.injEq, Addr.mk.injEq, and_true] at hge
              obtain ⟨rfl, rfl⟩ := hge
              rw [ivs_get _ xn (by rw [nats_len]; omega), nats_get, ← hbq.cell (p := ⟨gk, ok + xn, none⟩) hgk] at hky
              rw [ivs_get _ xn0 (by rw [nats_len]; omega), nats_get, ← hbq.cell (p := ⟨gk, ok + xn0, none⟩) hgk] at hkz
              have HKY : Hid (κ (xn : Int) = K.getD xn 0) := Lib.hid (by rw [HKAP.out]; rfl)
              have HKZ : Hid (κ (xn0 : Int) = K.getD xn0 0) := Lib.hid (by rw [HKAP.out]; rfl)
              obtain ⟨ky, hky'⟩ : ∃ ky, ky = K.getD xn 0 := ⟨_, rfl⟩
              obtain ⟨kz, hkz'⟩ : ∃ kz, kz = K.getD xn0 0 := ⟨_, rfl⟩
              rw [← hky'] at hky HKY
              rw [← hkz'] at hkz HKZ
              have hyl : xn < n := by omega
              have hzl : xn0 < n := by omega
              clear hx0 hx2 hx02 hky' hkz'
              by_cases he : ky = kz
              · subst he
                have HG := Lib.hid (HGOOD.out HOKD.out (HKK.out (by rw [HKY.out, HKZ.out])))
                go_wp2
                go_quiet (fail)
                go_wp2
                go_roundw
                case rel => exact ⟨k + 1, by omega, by go_num, (by rw [HHD.out]; exact HG), by first | exact HB38.out.trans (hbq.mono h8z) | exact below_drewN (HB38.out.trans (hbq.mono h8z)) _⟩
                case measure => simp [intOf]; omega
              · have hne : ((ky : Int) != (kz : Int)) = true := by simp; omega
                have HR2 := Lib.hid (HKB.out (by rw [HKY.out, HKZ.out]; exact he))
                clear he
                go_wp2
                go_quiet (fail)
                go_wp2
                go_ret
                exact ⟨ret_bool HR2.out.symm, by first | exact HFIN.out | exact below_drewN HFIN.out _⟩
      · have HR2 := Lib.hid (HBAD.out (.inr (fun e => hlen (by have := (kD_point.1 e).1; have := HM.out; have := HM2.out; omega))))
        have hne : ((m2 : Int) != (m : Int)) = true := by simp; omega
        clear hlen
        go_wp2
        go_ret
        exact ⟨ret_bool HR2.out.symm, (HBW3.out.trans (hbel.mono HBW3.out.size)).alloc (by have := HBW3.out.size; omega) _⟩
    · obtain rfl : k = dn := by omega
      have HR2 : Hid (r = true) := Lib.hid (by rw [← HR.out]; exact declsOk_good (by have := HN.out; omega) (by have := HN.out; omega) (fun j hj => HALL.out j (by have := HN.out; omega)))
      go_wp2
      go_ret
      exact ⟨ret_bool HR2.out.symm, HBW3.out.trans (hbel.mono HBW3.out.size)⟩
end Go.Proofs.YtjejdcehlckfhaaGreat.sigl
