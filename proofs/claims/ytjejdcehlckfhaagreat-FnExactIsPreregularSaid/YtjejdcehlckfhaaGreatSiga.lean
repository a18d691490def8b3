/-
  THE MODEL's FUNCTIONS OF SIGNATURES: l4Axioms.
-/
import Derived.Test.YtjejdcehlckfhaaGreatSigl
namespace Go.Proofs.YtjejdcehlckfhaaGreat.siga
open Go.ChangeShapes Go.WideShapes Go.ChangeAt Go.RowKit
open mem split strl join subs sortn setm sets sortm sortp sorti sortf sortu sortg rowl sigm sigs sigi sigj sigl

/-- the axioms fit, in plain terms -/
def axP (κ : Int → Nat) (a b : Bool) (u : Int) (L : List Int) (x0 : Int) (m eL : Nat) (ex : Int) : Bool :=
  ((!a && !b && decide (u = 0)) || (decide (L.length = 2) && decide (κ (L.getD 0 0) = κ (L.getD 1 0)) && ((!a && decide (u = 0)) || decide (κ (L.getD 0 0) = κ x0)))) && (decide (u = 0) || (decide (0 ≤ u ∧ u ≤ m) && decide (eL = 0) && decide (κ ex = κ x0)))
theorem axP_eq (κ : Int → Nat) (O : List OpM) (o : OpM) : axOk κ O o = axP κ o.ass o.com o.unt (hd0 o.decls).1 (hd0 o.decls).2 O.length (hd0 (unitOf O o).decls).1.length (hd0 (unitOf O o).decls).2 := rfl
set_option maxRecDepth 100000 in
set_option maxHeartbeats 8000000 in
/-- spec.l4Axioms -/
theorem l4Axioms_any (P : List (List UInt8)) (Q : List (Int × Int)) (hok : okS P Q = true) (O : List OpM) (hO : ∀ o ∈ O, declsOk P.length (κK P.length Q) o.decls = true) (va vb vc : Value) (i : Nat) (hi : i < O.length) (r : Bool) (hr : axOk (κK P.length Q) O (O.getD i default) = r) (w : World) (h : HasG w va vb vc P Q O) :
    Calls Tryz.prog 100 #[.agg #[va, vb, vc], .int .i64 (i : Int)] w fun e w' => e = .returned (.bool r) ∧ Below w.heap.size w w' := by
  obtain ⟨p1, p2, p3, p4, p5⟩ := okS_parts hok
  have HKI := Lib.hid (fun W (hW : Below w.heap.size w W) => l3Kinds_any P Q p1 p2 (by omega) p3 (ok_ne hok) va vb W (h.below (Nat.le_refl _) hW).s)
  have hKl : (kin P.length (prs Q)).length = P.length := kin_len _ _
  obtain ⟨A, ca, B, cb, C, cc, rfl, rfl, rfl, hl1, hl2, hl3, h'⟩ := h.shape
  have HOO := Lib.hid (fun W (hW : Below w.heap.size w W) => (h'.below (Nat.le_refl _) hW).o)
  obtain ⟨n, hn⟩ : ∃ n, n = P.length := ⟨_, rfl⟩
  rw [← hn] at hr HKI hKl hO hl1 ⊢
  obtain ⟨K, hK⟩ : ∃ K, K = kin n (prs Q) := ⟨_, rfl⟩
  have hκ : ∀ x, κK n Q x = K.getD x.toNat 0 := fun x => by rw [κK, hK]
  rw [← hK] at HKI hKl
  obtain ⟨κ, hκd⟩ : ∃ κ, κ = κK n Q := ⟨_, rfl⟩
  rw [← hκd] at hr hκ hO
  have HKAP := Lib.hid hκ
  obtain ⟨m, hm⟩ : ∃ m, m = O.length := ⟨_, rfl⟩
  rw [← hm] at hl3 hi HOO ⊢
  have HMO := Lib.hid hm
  have HDO : Hid (∀ k, k < m → declsOk n κ (O.getD k default).decls = true) := Lib.hid (fun k hk => hO _ (by rw [List.getD_eq_getElem?_getD, List.getElem?_eq_getElem (by omega)]; exact List.getElem_mem _))
  clear h h' hok p1 p2 p3 p4 p5 hn hK hκd hκ hm hO
  obtain ⟨g, o, A2, c2, rfl, _, hg, hc0, hc1, hc2, hc3, hc4, hh, hnl, hu64⟩ := op_at (HOO.out w (Below.refl _ _)) hi
  have HDI := Lib.hid (declsOk_parts (HDO.out i hi))
  have HUN : Hid (∀ k, k < m → (O.getD i default).unt = (k : Int) + 1 → unitOf O (O.getD i default) = O.getD k default) := Lib.hid (fun k _ e => by rw [unitOf, e]; congr 1)
  rw [axP_eq] at hr
  obtain ⟨eL, heL⟩ : ∃ eL, eL = (hd0 (unitOf O (O.getD i default)).decls).1.length := ⟨_, rfl⟩
  obtain ⟨ex, hex⟩ : ∃ ex, ex = (hd0 (unitOf O (O.getD i default)).decls).2 := ⟨_, rfl⟩
  rw [← heL, ← hex, ← HMO.out] at hr
  have HEL := Lib.hid heL
  have HEX := Lib.hid hex
  clear heL hex
  obtain ⟨⟨nm, D, a, b, u⟩, hd⟩ : ∃ d, d = O.getD i default := ⟨_, rfl⟩
  rw [← hd] at hc0 hc1 hc2 hc3 hc4 hh hnl hu64 HDI hr HUN HEL HEX
  have hu64a : -9223372036854775808 ≤ u := hu64.1
  have hu64b : u ≤ 9223372036854775807 := hu64.2
  have hr' : axP κ a b u (hd0 D).1 (hd0 D).2 m eL ex = r := hr
  obtain ⟨L, hL⟩ : ∃ L, L = (hd0 D).1 := ⟨_, rfl⟩
  obtain ⟨x0, hx0⟩ : ∃ x, x = (hd0 D).2 := ⟨_, rfl⟩
  have HHD0 : Hid (hd0 D = (L, x0)) := Lib.hid (by rw [hL, hx0])
  rw [← hL, ← hx0] at hr'
  have HR := Lib.hid hr'
  have hd1' : 1 ≤ D.length := HDI.out.1
  have HAR0 := Lib.hid (fun W (hW : Below w.heap.size w W) => l4Arity_any nm D hd1' _ a b u W (hh.below RD_steady (Nat.le_refl _) hW))
  rw [HHD0.out] at HAR0
  have HOKD : Hid (L.length ≤ 3 ∧ inN n x0 = true ∧ ∀ k, k < L.length → inN n (L.getD k 0) = true) := Lib.hid (by
    have := HDI.out.2.2.2
    have e : hd0 D = (L, x0) := HHD0.out
    have h2 : okD n (L, x0) = true := by rw [← e]; exact this
    exact okD_parts h2)
  obtain ⟨ln, hln0⟩ : ∃ ln, ln = L.length := ⟨_, rfl⟩
  have HLN := Lib.hid hln0
  obtain ⟨dn, hdn⟩ : ∃ dn, dn = D.length := ⟨_, rfl⟩
  have hc1' : w.cell? ⟨g, o + i * 5 + 1, none⟩ = some (.slice A2 dn c2) := by rw [hdn]; exact hc1
  have HAR : Hid (∀ W, Below w.heap.size w W → Calls Tryz.prog 101 #[.agg #[.string (bstr nm), .slice A2 dn c2, .bool a, .bool b, .int .i64 u]] W fun e w' => e = .returned (.int .i64 (ln : Int)) ∧ Below W.heap.size W w') :=
    Lib.hid (fun W hW => by rw [hdn, hln0]; exact HAR0.out W hW)
  have hd1 : 1 ≤ dn := by rw [hdn]; exact hd1'
  have HHD : Hid (HasD 0 w (.slice A2 dn c2) D) := Lib.hid (by rw [hdn]; exact hh)
  have hdl := HHD.out.len.2.1
  have hc0' : w.cell? ⟨g, o + i * 5, none⟩ = some (.string (bstr nm)) := hc0
  have hc2' : w.cell? ⟨g, o + i * 5 + 2, none⟩ = some (.bool a) := hc2
  have hc3' : w.cell? ⟨g, o + i * 5 + 3, none⟩ = some (.bool b) := hc3
  have hc4' : w.cell? ⟨g, o + i * 5 + 4, none⟩ = some (.int .i64 u) := hc4
  have HL1 := Lib.hid (fun r hr W => l1In_any u 0 (m : Int) r hr W)
  have HR3 : Hid (inI u 0 (m : Int) = false → r = false) := Lib.hid (fun hin => by
    rw [← HR.out, axP]
    have hin2 : ¬ (0 ≤ u ∧ u ≤ m) := by simpa [inI] using hin
    have hu0 : ¬ u = 0 := fun e => hin2 (by omega)
    simp [hin2, hu0])
  clear hh hc0 hc1 hc2 hc3 hc4 hd hdn hu64 hnl hr hr' hd1' HAR0 hln0 hL hx0
  by_cases hA : a = false ∧ b = false ∧ u = 0
  · obtain ⟨rfl, rfl, rfl⟩ := hA
    have HR2 : Hid (r = true) := Lib.hid (by rw [← HR.out, axP]; simp)
    go_enter Tryz.func100, Tryz.ntmps100
    go_wp2
    go_ret
    exact ⟨ret_bool HR2.out.symm, ((Below.refl _ _).alloc (Nat.le_refl _) _).alloc (by simp) _⟩
  have HR1 : Hid (¬ ln = 2 → r = false) := Lib.hid (fun hl => by
    have hl2 : ¬ L.length = 2 := by rw [← HLN.out]; exact hl
    have hnA : (!a && !b && decide (u = 0)) = false := by cases a <;> cases b <;> simp_all
    rw [← HR.out, axP, hnA]
    simp [hl2])
  cases a with
  | true =>
    clear hA
    go_enter Tryz.func100, Tryz.ntmps100
    go_wp2_with fail
    refine (HAR.out _ (((Below.refl _ _).alloc (Nat.le_refl _) _).alloc (by simp) _)).mono ?_
    rintro e w1 ⟨rfl, hb1⟩
    have hbw1 : Below w.heap.size w w1 := (((Below.refl _ _).alloc (Nat.le_refl _) _).alloc (by simp) _).trans (hb1.mono (by simp; omega))
    have hs1 : w.heap.size + 1 < w1.heap.size := by have := hb1.size; simp at this; omega
    have hs1' : w.heap.size < w1.heap.size := by omega
    have k0 : w1.heap[w.heap.size]? = some (.cells #[.slice A n ca, .slice B Q.length cb, .slice (some ⟨g, o, none⟩) m cc] 40 (0, 0)) := by rw [hb1.block _ (by simp; omega), Below.heap_alloc _ _ _ (by simp)]; exact heap_at _ _ _ rfl
    have k1 : w1.heap[w.heap.size + 1]? = some (.cells #[.string (bstr nm), .slice A2 dn c2, .bool true, .bool b, .int .i64 u] 97 (0, 0)) := by rw [hb1.block _ (by simp)]; exact heap_at _ _ _ (by simp)
    have s0 : w1.cell? ⟨w.heap.size, 0, none⟩ = some (.slice A n ca) := cell_of_row w1 _ 0 _ _ _ k0
    have s1 : w1.cell? ⟨w.heap.size, 1, none⟩ = some (.slice B Q.length cb) := cell_of_row w1 _ 1 _ _ _ k0
    have s2 : w1.cell? ⟨w.heap.size, 2, none⟩ = some (.slice (some ⟨g, o, none⟩) m cc) := cell_of_row w1 _ 2 _ _ _ k0
    have o1 : w1.cell? ⟨w.heap.size + 1, 1, none⟩ = some (.slice A2 dn c2) := cell_of_row w1 _ 1 _ _ _ k1
    have o2 : w1.cell? ⟨w.heap.size + 1, 2, none⟩ = some (.bool true) := cell_of_row w1 _ 2 _ _ _ k1
    have o4 : w1.cell? ⟨w.heap.size + 1, 4, none⟩ = some (.int .i64 u) := cell_of_row w1 _ 4 _ _ _ k1
    clear hb1 k0 k1
    by_cases hln : ¬ ln = 2
    · have hne : ((ln : Int) != 2) = true := by simp; omega
      have HR2 := Lib.hid (HR1.out hln)
      clear hln
      go_wp2
      go_ret
      exact ⟨ret_bool HR2.out.symm, hbw1⟩
    obtain rfl : ln = 2 := Decidable.not_not.1 hln
    clear hln
    cases hin : inI u 0 (m : Int) with
    | false =>
      have HR2 := Lib.hid (HR3.out hin)
      have HL2 := Lib.hid (fun W => HL1.out false hin W)
      clear hin
      go_wp2_with fail
      refine (HL2.out _).mono ?_
      rintro e w2 ⟨rfl, rfl⟩
      go_wp2
      go_ret
      exact ⟨ret_bool HR2.out.symm, hbw1⟩
    | true =>
      have HL2 := Lib.hid (fun W => HL1.out true hin W)
      have HIN := Lib.hid hin
      clear hin
      go_wp2_with fail
      refine (HL2.out _).mono ?_
      rintro e w2 ⟨rfl, rfl⟩
      go_wp2_with fail
      refine (HKI.out _ hbw1).mono ?_
      rintro e w2 ⟨kv, rfl, hkv, hb2⟩
      obtain ⟨KA, kc, rfl, hkh⟩ := (Has.of_own hkv).shape (n := n) (by rw [ivs_len, nats_len]; exact hKl)
      have hbw2 := hbw1.trans (hb2.mono hbw1.size)
      have hs2 : w.heap.size + 1 < w2.heap.size := Nat.lt_of_lt_of_le hs1 hb2.size
      have t2 : w2.cell? ⟨w.heap.size, 2, none⟩ = some (.slice (some ⟨g, o, none⟩) m cc) := (hb2.cell (by exact hs1')).trans s2
      have q1 : w2.cell? ⟨w.heap.size + 1, 1, none⟩ = some (.slice A2 dn c2) := (hb2.cell (by exact hs1)).trans o1
      have q2 : w2.cell? ⟨w.heap.size + 1, 2, none⟩ = some (.bool true) := (hb2.cell (by exact hs1)).trans o2
      have q4 : w2.cell? ⟨w.heap.size + 1, 4, none⟩ = some (.int .i64 u) := (hb2.cell (by exact hs1)).trans o4
      have hDD : HasD 0 w2 (.slice A2 dn c2) D := HHD.out.below RD_steady (Nat.le_refl _) hbw2
      obtain ⟨gd, od, A3, c3, rfl, _, hgd, d0, d1, hhd, _, _⟩ := decl_at hDD (j := 0) (by omega)
      clear hDD
      have hd00 : D.getD 0 default = (L, x0) := HHD0.out
      rw [hd00, show od + 0 * 2 = od by omega] at d0 d1
      rw [hd00] at hhd
      have hlen2 : L.length = 2 := HLN.out.symm
      rw [show ((L, x0) : List Int × Int).1.length = 2 from hlen2] at d0 hhd
      obtain ⟨gl, ol, rfl, hgl, hcl0⟩ := hhd.has.cellAt (j := 0) (by omega)
      obtain ⟨gl2, ol2, hge, _, hcl1⟩ := hhd.has.cellAt (j := 1) (by omega)
      simp only [Option.some.injEq, Addr.mk.injEq, and_true] at hge
      obtain ⟨rfl, rfl⟩ := hge
      rw [ivs_get _ 0 (by show 0 < L.length; omega), Nat.add_zero] at hcl0
      rw [ivs_get _ 1 (by show 1 < L.length; omega)] at hcl1
      have r0 := HOKD.out.2.2 0 (by omega)
      have r1 := HOKD.out.2.2 1 (by omega)
      have r2 := HOKD.out.2.1
      have HRR := Lib.hid HR.out
      unfold axP at HRR
      obtain ⟨y0, hy0⟩ : ∃ y, y = L.getD 0 0 := ⟨_, rfl⟩
      obtain ⟨y1, hy1⟩ : ∃ y, y = L.getD 1 0 := ⟨_, rfl⟩
      rw [show ((L, x0) : List Int × Int).1.getD 0 0 = y0 from hy0.symm] at hcl0
      rw [show ((L, x0) : List Int × Int).1.getD 1 0 = y1 from hy1.symm] at hcl1
      rw [← hy0, ← hy1] at HRR
      rw [← hy0] at r0
      rw [← hy1] at r1
      rw [show ((L, x0) : List Int × Int).2 = x0 from rfl] at d1
      have r0' : 0 ≤ y0 ∧ y0 < n := by simpa [inN] using r0
      have r1' : 0 ≤ y1 ∧ y1 < n := by simpa [inN] using r1
      have r2' : 0 ≤ x0 ∧ x0 < n := by simpa [inN] using r2
      obtain ⟨z0, rfl⟩ : ∃ z : Nat, y0 = (z : Int) := ⟨y0.toNat, by omega⟩
      obtain ⟨z1, rfl⟩ : ∃ z : Nat, y1 = (z : Int) := ⟨y1.toNat, by omega⟩
      obtain ⟨zx, hzx⟩ : ∃ z : Nat, x0 = (z : Int) := ⟨x0.toNat, by omega⟩
      rw [hzx] at d1 r2'
      obtain ⟨gk, ok, rfl, hgk, hk0⟩ := hkh.cellAt (j := z0) (by omega)
      obtain ⟨gk2, ok2, hge, _, hk1⟩ := hkh.cellAt (j := z1) (by omega)
      simp only [Option.some.injEq, Addr.mk.injEq, and_true] at hge
      obtain ⟨rfl, rfl⟩ := hge
      obtain ⟨gk2, ok2, hge, _, hkx⟩ := hkh.cellAt (j := zx) (by omega)
      simp only [Option.some.injEq, Addr.mk.injEq, and_true] at hge
      obtain ⟨rfl, rfl⟩ := hge
      rw [ivs_get _ z0 (by rw [nats_len]; omega), nats_get] at hk0
      rw [ivs_get _ z1 (by rw [nats_len]; omega), nats_get] at hk1
      rw [ivs_get _ zx (by rw [nats_len]; omega), nats_get] at hkx
      have HKH := Lib.hid hkh
      have HK0 : Hid (κ (z0 : Int) = K.getD z0 0) := Lib.hid (by rw [HKAP.out]; rfl)
      have HK1 : Hid (κ (z1 : Int) = K.getD z1 0) := Lib.hid (by rw [HKAP.out]; rfl)
      have HKX : Hid (κ x0 = K.getD zx 0) := Lib.hid (by rw [HKAP.out, hzx]; rfl)
      rw [HK0.out, HK1.out, HKX.out] at HRR
      obtain ⟨f0, hf0⟩ : ∃ f, f = K.getD z0 0 := ⟨_, rfl⟩
      obtain ⟨f1, hf1⟩ : ∃ f, f = K.getD z1 0 := ⟨_, rfl⟩
      obtain ⟨fx, hfx⟩ : ∃ f, f = K.getD zx 0 := ⟨_, rfl⟩
      rw [← hf0] at hk0 HRR
      rw [← hf1] at hk1 HRR
      rw [← hfx] at hkx HRR
      have l0 : z0 < n := by omega
      have l1 : z1 < n := by omega
      have lx : zx < n := by omega
      have HFX := Lib.hid hfx
      have HXZ := Lib.hid hzx
      clear hf0 hf1 hfx r0 r1 r2 r0' r1' r2' hy0 hy1 hkh hkv hb2 hhd hd00 s0 s1 s2 o1 o2 o4 hzx
      have HBW2 := Lib.hid hbw2
      by_cases h01 : ¬ f0 = f1
      · have hne : ((f0 : Int) != (f1 : Int)) = true := by simp; omega
        have HR2 : Hid (r = false) := Lib.hid (by rw [← HRR.out]; simp [hlen2, h01])
        go_wp2
        go_quiet (fail)
        go_wp2
        go_ret
        exact ⟨ret_bool HR2.out.symm, by first | exact below_drewN (HBW2.out.alloc (by omega) _) _ | exact (HBW2.out.alloc (by omega) _)⟩
      obtain rfl : f0 = f1 := Decidable.not_not.1 h01
      clear h01
      by_cases h0x : ¬ f0 = fx
      · have hne : ((f0 : Int) != (fx : Int)) = true := by simp; omega
        have HR2 : Hid (r = false) := Lib.hid (by rw [← HRR.out]; simp [hlen2, h0x])
        go_wp2
        go_quiet (fail)
        go_wp2
        go_ret
        exact ⟨ret_bool HR2.out.symm, by first | exact below_drewN (HBW2.out.alloc (by omega) _) _ | exact (HBW2.out.alloc (by omega) _)⟩
      obtain rfl : f0 = fx := Decidable.not_not.1 h0x
      clear h0x
      by_cases hu0 : u = 0
      · have HR2 : Hid (r = true) := Lib.hid (by rw [← HRR.out]; simp [hlen2, hu0])
        subst hu0
        go_wp2
        go_quiet (fail)
        go_wp2
        go_ret
        exact ⟨ret_bool HR2.out.symm, by first | exact below_drewN (HBW2.out.alloc (by omega) _) _ | exact (HBW2.out.alloc (by omega) _)⟩
      have hup : 0 < u := by have := HIN.out; simp [inI] at this; omega
      have hum : u ≤ m := by have := HIN.out; simp [inI] at this; omega
      obtain ⟨k, rfl⟩ : ∃ k : Nat, u = (k : Int) + 1 := ⟨(u - 1).toNat, by omega⟩
      have hkm : k < m := by omega
      have hk1z : ((k : Int) + 1 == 0) = false := by simp; omega
      obtain ⟨g5, o5, A5, c5, hge, _, hg5, e0, e1, e2, e3, e4, hh5, _, _⟩ := op_at (HOO.out _ hbw2) hkm
      simp only [Option.some.injEq, Addr.mk.injEq, and_true] at hge
      obtain ⟨rfl, rfl⟩ := hge
      have HU := HUN.out k hkm rfl
      have HDK := Lib.hid (declsOk_parts (HDO.out k hkm))
      have HUE := Lib.hid (And.intro HEL.out HEX.out)
      rw [HU] at HUE
      obtain ⟨⟨nm5, D5, a5, b5, u5⟩, hd5⟩ : ∃ d, d = O.getD k default := ⟨_, rfl⟩
      rw [← hd5] at e0 e1 e2 e3 e4 hh5 HDK HUE
      have HAR5 := Lib.hid (fun W (hW : Below w2.heap.size w2 W) => l4Arity_any nm5 D5 HDK.out.1 _ a5 b5 u5 W (hh5.below RD_steady (Nat.le_refl _) hW))
      have HHD5 := Lib.hid hh5
      have hdl5 := hh5.len.2.1
      have h15 : 1 ≤ D5.length := HDK.out.1
      obtain ⟨dn5, hdn5⟩ : ∃ dn5, dn5 = D5.length := ⟨_, rfl⟩
      have e1' : w2.cell? ⟨g, o + k * 5 + 1, none⟩ = some (.slice A5 dn5 c5) := by rw [hdn5]; exact e1
      rw [show D5.length = dn5 from hdn5.symm] at HHD5 hdl5 HAR5 h15
      have HOK5 := Lib.hid (okD_parts HDK.out.2.2.2)
      obtain ⟨ln5, hln5⟩ : ∃ ln5, ln5 = (hd0 D5).1.length := ⟨_, rfl⟩
      obtain ⟨x5, hx5⟩ : ∃ x5, x5 = (hd0 D5).2 := ⟨_, rfl⟩
      have HEL5 : Hid (eL = ln5) := Lib.hid (by rw [hln5]; exact HUE.out.1)
      have HEX5 : Hid (ex = x5) := Lib.hid (by rw [hx5]; exact HUE.out.2)
      have hR5 : inN n x5 = true := by rw [hx5]; exact HOK5.out.2.1
      rw [← hln5] at HAR5
      have HX5 := Lib.hid hx5
      have hR5' : 0 ≤ x5 ∧ x5 < n := by simpa [inN] using hR5
      clear hd5 hh5 hdn5 e1 hR5 hln5 hx5 HU
      go_wp2
      go_quiet (fail)
      generalize hW8 : ((w2.alloc (.cells #[.slice (some ⟨gl, ol, none⟩) 2 c3, .int .i64 (zx : Int)] 191)).drewN nq) = W8
      have hb28 : Below w2.heap.size w2 W8 := by rw [← hW8]; exact below_drewN ((Below.refl _ _).alloc (Nat.le_refl _) _) _
      have T2 : W8.cell? ⟨w.heap.size, 2, none⟩ = some (.slice (some ⟨g, o, none⟩) m cc) := (hb28.cell (by show w.heap.size < w2.heap.size; omega)).trans t2
      have Q2 : W8.cell? ⟨w.heap.size + 1, 2, none⟩ = some (.bool true) := (hb28.cell (by exact hs2)).trans q2
      have Q4 : W8.cell? ⟨w.heap.size + 1, 4, none⟩ = some (.int .i64 ((k : Int) + 1)) := (hb28.cell (by exact hs2)).trans q4
      have E0 : W8.cell? ⟨g, o + k * 5, none⟩ = _ := (hb28.cell (by exact hg5)).trans e0
      have E1 : W8.cell? ⟨g, o + k * 5 + 1, none⟩ = _ := (hb28.cell (by exact hg5)).trans e1'
      have E2 : W8.cell? ⟨g, o + k * 5 + 2, none⟩ = _ := (hb28.cell (by exact hg5)).trans e2
      have E3 : W8.cell? ⟨g, o + k * 5 + 3, none⟩ = _ := (hb28.cell (by exact hg5)).trans e3
      have E4 : W8.cell? ⟨g, o + k * 5 + 4, none⟩ = _ := (hb28.cell (by exact hg5)).trans e4
      clear hW8 t2 q1 q2 q4 e0 e1' e2 e3 e4 hc0' hc1' hc2' hc3' hc4' d0 d1 hcl0 hcl1 hk0 hk1 hkx
      have hnz : ¬ (k : Int) + 1 = 0 := by omega
      have hrg : 0 ≤ (k : Int) + 1 ∧ (k : Int) + 1 ≤ m := by omega
      have HNZ := Lib.hid (And.intro hnz hrg)
      clear hnz hrg
      go_wp2_with fail
      refine (HAR5.out _ (hb28.alloc hb28.size _)).mono ?_
      rintro e w3 ⟨rfl, hb3⟩
      have hb23 : Below w2.heap.size w2 w3 := (hb28.alloc hb28.size _).trans (hb3.mono (by have := hb28.size; simp; omega))
      have hbw3 : Below w.heap.size w w3 := HBW2.out.trans (hb23.mono HBW2.out.size)
      have y1 : w3.cell? ⟨W8.heap.size, 1, none⟩ = some (.slice A5 dn5 c5) := by rw [hb3.cell (p := ⟨W8.heap.size, 1, none⟩) (by simp)]; simp
      clear hb3
      by_cases hl5 : ¬ ln5 = 0
      · have hne : ((ln5 : Int) == 0) = false := by simp; omega
        have HR2 : Hid (r = false) := Lib.hid (by rw [← HRR.out, HEL5.out]; simp [HNZ.out.1, hl5])
        clear hl5
        go_wp2
        go_ret
        exact ⟨ret_bool HR2.out.symm, hbw3⟩
      obtain rfl : ln5 = 0 := Decidable.not_not.1 hl5
      clear hl5
      obtain ⟨gz, oz, A6, c6, rfl, _, hgz, z0c, z1c, _, _, _⟩ := decl_at (HHD5.out.below RD_steady (Nat.le_refl _) hb23) (j := 0) (by omega)
      have hd05 : (D5.getD 0 default).2 = x5 := HX5.out.symm
      rw [hd05, show oz + 0 * 2 = oz by omega] at z1c
      rw [show oz + 0 * 2 = oz by omega] at z0c
      obtain ⟨z5, rfl⟩ : ∃ z : Nat, x5 = (z : Int) := ⟨x5.toNat, by omega⟩
      obtain ⟨gk2, ok2, hge, _, hkz⟩ := HKH.out.cellAt (j := z5) (by omega)
      simp only [Option.some.injEq, Addr.mk.injEq, and_true] at hge
      obtain ⟨rfl, rfl⟩ := hge
      rw [ivs_get _ z5 (by rw [nats_len]; omega), nats_get, ← hb23.cell (p := ⟨gk, ok + z5, none⟩) hgk] at hkz
      have HKZ : Hid (κ (z5 : Int) = K.getD z5 0) := Lib.hid (by rw [HKAP.out]; rfl)
      obtain ⟨f5, hf5⟩ : ∃ f, f = K.getD z5 0 := ⟨_, rfl⟩
      rw [← hf5] at hkz HKZ
      have l5 : z5 < n := by omega
      clear hf5 hd05
      by_cases h5 : f5 = f0
      · subst h5
        have HR2 : Hid (r = true) := Lib.hid (by rw [← HRR.out, HEL5.out, HEX5.out, HKZ.out]; simp [hlen2, HNZ.out.2])
        go_wp2
        go_ret
        exact ⟨ret_bool HR2.out.symm, hbw3⟩
      · have hne : ((f5 : Int) == (f0 : Int)) = false := by simp; omega
        have HR2 : Hid (r = false) := Lib.hid (by rw [← HRR.out, HEL5.out, HEX5.out, HKZ.out]; simp [HNZ.out.1, h5])
        clear h5
        go_wp2
        go_ret
        exact ⟨ret_bool HR2.out.symm, hbw3⟩
  | false =>
    cases b with
    | true =>
      clear hA
      go_enter Tryz.func100, Tryz.ntmps100
      go_wp2_with fail
      refine (HAR.out _ (((Below.refl _ _).alloc (Nat.le_refl _) _).alloc (by simp) _)).mono ?_
      rintro e w1 ⟨rfl, hb1⟩
      have hbw1 : Below w.heap.size w w1 := (((Below.refl _ _).alloc (Nat.le_refl _) _).alloc (by simp) _).trans (hb1.mono (by simp; omega))
      have hs1 : w.heap.size + 1 < w1.heap.size := by have := hb1.size; simp at this; omega
      have hs1' : w.heap.size < w1.heap.size := by omega
      have k0 : w1.heap[w.heap.size]? = some (.cells #[.slice A n ca, .slice B Q.length cb, .slice (some ⟨g, o, none⟩) m cc] 40 (0, 0)) := by rw [hb1.block _ (by simp; omega), Below.heap_alloc _ _ _ (by simp)]; exact heap_at _ _ _ rfl
      have k1 : w1.heap[w.heap.size + 1]? = some (.cells #[.string (bstr nm), .slice A2 dn c2, .bool false, .bool true, .int .i64 u] 97 (0, 0)) := by rw [hb1.block _ (by simp)]; exact heap_at _ _ _ (by simp)
      have s0 : w1.cell? ⟨w.heap.size, 0, none⟩ = some (.slice A n ca) := cell_of_row w1 _ 0 _ _ _ k0
      have s1 : w1.cell? ⟨w.heap.size, 1, none⟩ = some (.slice B Q.length cb) := cell_of_row w1 _ 1 _ _ _ k0
      have s2 : w1.cell? ⟨w.heap.size, 2, none⟩ = some (.slice (some ⟨g, o, none⟩) m cc) := cell_of_row w1 _ 2 _ _ _ k0
      have o1 : w1.cell? ⟨w.heap.size + 1, 1, none⟩ = some (.slice A2 dn c2) := cell_of_row w1 _ 1 _ _ _ k1
      have o2 : w1.cell? ⟨w.heap.size + 1, 2, none⟩ = some (.bool false) := cell_of_row w1 _ 2 _ _ _ k1
      have o4 : w1.cell? ⟨w.heap.size + 1, 4, none⟩ = some (.int .i64 u) := cell_of_row w1 _ 4 _ _ _ k1
      clear hb1 k0 k1
      by_cases hln : ¬ ln = 2
      · have hne : ((ln : Int) != 2) = true := by simp; omega
        have HR2 := Lib.hid (HR1.out hln)
        clear hln
        go_wp2
        go_ret
        exact ⟨ret_bool HR2.out.symm, hbw1⟩
      obtain rfl : ln = 2 := Decidable.not_not.1 hln
      clear hln
      cases hin : inI u 0 (m : Int) with
      | false =>
        have HR2 := Lib.hid (HR3.out hin)
        have HL2 := Lib.hid (fun W => HL1.out false hin W)
        clear hin
        go_wp2_with fail
        refine (HL2.out _).mono ?_
        rintro e w2 ⟨rfl, rfl⟩
        go_wp2
        go_ret
        exact ⟨ret_bool HR2.out.symm, hbw1⟩
      | true =>
        have HL2 := Lib.hid (fun W => HL1.out true hin W)
        have HIN := Lib.hid hin
        clear hin
        go_wp2_with fail
        refine (HL2.out _).mono ?_
        rintro e w2 ⟨rfl, rfl⟩
        go_wp2_with fail
        refine (HKI.out _ hbw1).mono ?_
        rintro e w2 ⟨kv, rfl, hkv, hb2⟩
        obtain ⟨KA, kc, rfl, hkh⟩ := (Has.of_own hkv).shape (n := n) (by rw [ivs_len, nats_len]; exact hKl)
        have hbw2 := hbw1.trans (hb2.mono hbw1.size)
        have hs2 : w.heap.size + 1 < w2.heap.size := Nat.lt_of_lt_of_le hs1 hb2.size
        have t2 : w2.cell? ⟨w.heap.size, 2, none⟩ = some (.slice (some ⟨g, o, none⟩) m cc) := (hb2.cell (by exact hs1')).trans s2
        have q1 : w2.cell? ⟨w.heap.size + 1, 1, none⟩ = some (.slice A2 dn c2) := (hb2.cell (by exact hs1)).trans o1
        have q2 : w2.cell? ⟨w.heap.size + 1, 2, none⟩ = some (.bool false) := (hb2.cell (by exact hs1)).trans o2
        have q4 : w2.cell? ⟨w.heap.size + 1, 4, none⟩ = some (.int .i64 u) := (hb2.cell (by exact hs1)).trans o4
        have hDD : HasD 0 w2 (.slice A2 dn c2) D := HHD.out.below RD_steady (Nat.le_refl _) hbw2
        obtain ⟨gd, od, A3, c3, rfl, _, hgd, d0, d1, hhd, _, _⟩ := decl_at hDD (j := 0) (by omega)
        clear hDD
        have hd00 : D.getD 0 default = (L, x0) := HHD0.out
        rw [hd00, show od + 0 * 2 = od by omega] at d0 d1
        rw [hd00] at hhd
        have hlen2 : L.length = 2 := HLN.out.symm
        rw [show ((L, x0) : List Int × Int).1.length = 2 from hlen2] at d0 hhd
        obtain ⟨gl, ol, rfl, hgl, hcl0⟩ := hhd.has.cellAt (j := 0) (by omega)
        obtain ⟨gl2, ol2, hge, _, hcl1⟩ := hhd.has.cellAt (j := 1) (by omega)
        simp only [Option.some.injEq, Addr.mk.injEq, and_true] at hge
        obtain ⟨rfl, rfl⟩ := hge
        rw [ivs_get _ 0 (by show 0 < L.length; omega), Nat.add_zero] at hcl0
        rw [ivs_get _ 1 (by show 1 < L.length; omega)] at hcl1
        have r0 := HOKD.out.2.2 0 (by omega)
        have r1 := HOKD.out.2.2 1 (by omega)
        have r2 := HOKD.out.2.1
        have HRR := Lib.hid HR.out
        unfold axP at HRR
        obtain ⟨y0, hy0⟩ : ∃ y, y = L.getD 0 0 := ⟨_, rfl⟩
        obtain ⟨y1, hy1⟩ : ∃ y, y = L.getD 1 0 := ⟨_, rfl⟩
        rw [show ((L, x0) : List Int × Int).1.getD 0 0 = y0 from hy0.symm] at hcl0
        rw [show ((L, x0) : List Int × Int).1.getD 1 0 = y1 from hy1.symm] at hcl1
        rw [← hy0, ← hy1] at HRR
        rw [← hy0] at r0
        rw [← hy1] at r1
        rw [show ((L, x0) : List Int × Int).2 = x0 from rfl] at d1
        have r0' : 0 ≤ y0 ∧ y0 < n := by simpa [inN] using r0
        have r1' : 0 ≤ y1 ∧ y1 < n := by simpa [inN] using r1
        have r2' : 0 ≤ x0 ∧ x0 < n := by simpa [inN] using r2
        obtain ⟨z0, rfl⟩ : ∃ z : Nat, y0 = (z : Int) := ⟨y0.toNat, by omega⟩
        obtain ⟨z1, rfl⟩ : ∃ z : Nat, y1 = (z : Int) := ⟨y1.toNat, by omega⟩
        obtain ⟨zx, hzx⟩ : ∃ z : Nat, x0 = (z : Int) := ⟨x0.toNat, by omega⟩
        rw [hzx] at d1 r2'
        obtain ⟨gk, ok, rfl, hgk, hk0⟩ := hkh.cellAt (j := z0) (by omega)
        obtain ⟨gk2, ok2, hge, _, hk1⟩ := hkh.cellAt (j := z1) (by omega)
        simp only [Option.some.injEq, Addr.mk.injEq, and_true] at hge
        obtain ⟨rfl, rfl⟩ := hge
        obtain ⟨gk2, ok2, hge, _, hkx⟩ := hkh.cellAt (j := zx) (by omega)
        simp only [Option.some.injEq, Addr.mk.injEq, and_true] at hge
        obtain ⟨rfl, rfl⟩ := hge
        rw [ivs_get _ z0 (by rw [nats_len]; omega), nats_get] at hk0
        rw [ivs_get _ z1 (by rw [nats_len]; omega), nats_get] at hk1
        rw [ivs_get _ zx (by rw [nats_len]; omega), nats_get] at hkx
        have HKH := Lib.hid hkh
        have HK0 : Hid (κ (z0 : Int) = K.getD z0 0) := Lib.hid (by rw [HKAP.out]; rfl)
        have HK1 : Hid (κ (z1 : Int) = K.getD z1 0) := Lib.hid (by rw [HKAP.out]; rfl)
        have HKX : Hid (κ x0 = K.getD zx 0) := Lib.hid (by rw [HKAP.out, hzx]; rfl)
        rw [HK0.out, HK1.out, HKX.out] at HRR
        obtain ⟨f0, hf0⟩ : ∃ f, f = K.getD z0 0 := ⟨_, rfl⟩
        obtain ⟨f1, hf1⟩ : ∃ f, f = K.getD z1 0 := ⟨_, rfl⟩
        obtain ⟨fx, hfx⟩ : ∃ f, f = K.getD zx 0 := ⟨_, rfl⟩
        rw [← hf0] at hk0 HRR
        rw [← hf1] at hk1 HRR
        rw [← hfx] at hkx HRR
        have l0 : z0 < n := by omega
        have l1 : z1 < n := by omega
        have lx : zx < n := by omega
        have HFX := Lib.hid hfx
        have HXZ := Lib.hid hzx
        clear hf0 hf1 hfx r0 r1 r2 r0' r1' r2' hy0 hy1 hkh hkv hb2 hhd hd00 s0 s1 s2 o1 o2 o4 hzx
        have HBW2 := Lib.hid hbw2
        by_cases h01 : ¬ f0 = f1
        · have hne : ((f0 : Int) != (f1 : Int)) = true := by simp; omega
          have HR2 : Hid (r = false) := Lib.hid (by rw [← HRR.out]; simp [hlen2, h01])
          go_wp2
          go_quiet (fail)
          go_wp2
          go_ret
          exact ⟨ret_bool HR2.out.symm, by first | exact below_drewN (HBW2.out.alloc (by omega) _) _ | exact (HBW2.out.alloc (by omega) _)⟩
        obtain rfl : f0 = f1 := Decidable.not_not.1 h01
        clear h01
        by_cases hu0 : u = 0
        · have HR2 : Hid (r = true) := Lib.hid (by rw [← HRR.out]; simp [hlen2, hu0])
          subst hu0
          go_wp2
          go_quiet (fail)
          go_wp2
          go_ret
          exact ⟨ret_bool HR2.out.symm, by first | exact below_drewN (HBW2.out.alloc (by omega) _) _ | exact (HBW2.out.alloc (by omega) _)⟩
        have hup : 0 < u := by have := HIN.out; simp [inI] at this; omega
        by_cases h0x : ¬ f0 = fx
        · have hne : ((f0 : Int) != (fx : Int)) = true := by simp; omega
          have HR2 : Hid (r = false) := Lib.hid (by rw [← HRR.out]; simp [hlen2, h0x, hu0])
          go_wp2
          go_quiet (fail)
          go_wp2
          go_ret
          exact ⟨ret_bool HR2.out.symm, by first | exact below_drewN (HBW2.out.alloc (by omega) _) _ | exact (HBW2.out.alloc (by omega) _)⟩
        obtain rfl : f0 = fx := Decidable.not_not.1 h0x
        clear h0x
        have hum : u ≤ m := by have := HIN.out; simp [inI] at this; omega
        obtain ⟨k, rfl⟩ : ∃ k : Nat, u = (k : Int) + 1 := ⟨(u - 1).toNat, by omega⟩
        have hkm : k < m := by omega
        have hk1z : ((k : Int) + 1 == 0) = false := by simp; omega
        obtain ⟨g5, o5, A5, c5, hge, _, hg5, e0, e1, e2, e3, e4, hh5, _, _⟩ := op_at (HOO.out _ hbw2) hkm
        simp only [Option.some.injEq, Addr.mk.injEq, and_true] at hge
        obtain ⟨rfl, rfl⟩ := hge
        have HU := HUN.out k hkm rfl
        have HDK := Lib.hid (declsOk_parts (HDO.out k hkm))
        have HUE := Lib.hid (And.intro HEL.out HEX.out)
        rw [HU] at HUE
        obtain ⟨⟨nm5, D5, a5, b5, u5⟩, hd5⟩ : ∃ d, d = O.getD k default := ⟨_, rfl⟩
        rw [← hd5] at e0 e1 e2 e3 e4 hh5 HDK HUE
        have HAR5 := Lib.hid (fun W (hW : Below w2.heap.size w2 W) => l4Arity_any nm5 D5 HDK.out.1 _ a5 b5 u5 W (hh5.below RD_steady (Nat.le_refl _) hW))
        have HHD5 := Lib.hid hh5
        have hdl5 := hh5.len.2.1
        have h15 : 1 ≤ D5.length := HDK.out.1
        obtain ⟨dn5, hdn5⟩ : ∃ dn5, dn5 = D5.length := ⟨_, rfl⟩
        have e1' : w2.cell? ⟨g, o + k * 5 + 1, none⟩ = some (.slice A5 dn5 c5) := by rw [hdn5]; exact e1
        rw [show D5.length = dn5 from hdn5.symm] at HHD5 hdl5 HAR5 h15
        have HOK5 := Lib.hid (okD_parts HDK.out.2.2.2)
        obtain ⟨ln5, hln5⟩ : ∃ ln5, ln5 = (hd0 D5).1.length := ⟨_, rfl⟩
        obtain ⟨x5, hx5⟩ : ∃ x5, x5 = (hd0 D5).2 := ⟨_, rfl⟩
        have HEL5 : Hid (eL = ln5) := Lib.hid (by rw [hln5]; exact HUE.out.1)
        have HEX5 : Hid (ex = x5) := Lib.hid (by rw [hx5]; exact HUE.out.2)
        have hR5 : inN n x5 = true := by rw [hx5]; exact HOK5.out.2.1
        rw [← hln5] at HAR5
        have HX5 := Lib.hid hx5
        have hR5' : 0 ≤ x5 ∧ x5 < n := by simpa [inN] using hR5
        clear hd5 hh5 hdn5 e1 hR5 hln5 hx5 HU
        go_wp2
        go_quiet (fail)
        generalize hW8 : ((w2.alloc (.cells #[.slice (some ⟨gl, ol, none⟩) 2 c3, .int .i64 (zx : Int)] 191)).drewN nq) = W8
        have hb28 : Below w2.heap.size w2 W8 := by rw [← hW8]; exact below_drewN ((Below.refl _ _).alloc (Nat.le_refl _) _) _
        have T2 : W8.cell? ⟨w.heap.size, 2, none⟩ = some (.slice (some ⟨g, o, none⟩) m cc) := (hb28.cell (by show w.heap.size < w2.heap.size; omega)).trans t2
        have Q2 : W8.cell? ⟨w.heap.size + 1, 2, none⟩ = some (.bool false) := (hb28.cell (by exact hs2)).trans q2
        have Q4 : W8.cell? ⟨w.heap.size + 1, 4, none⟩ = some (.int .i64 ((k : Int) + 1)) := (hb28.cell (by exact hs2)).trans q4
        have E0 : W8.cell? ⟨g, o + k * 5, none⟩ = _ := (hb28.cell (by exact hg5)).trans e0
        have E1 : W8.cell? ⟨g, o + k * 5 + 1, none⟩ = _ := (hb28.cell (by exact hg5)).trans e1'
        have E2 : W8.cell? ⟨g, o + k * 5 + 2, none⟩ = _ := (hb28.cell (by exact hg5)).trans e2
        have E3 : W8.cell? ⟨g, o + k * 5 + 3, none⟩ = _ := (hb28.cell (by exact hg5)).trans e3
        have E4 : W8.cell? ⟨g, o + k * 5 + 4, none⟩ = _ := (hb28.cell (by exact hg5)).trans e4
        clear hW8 t2 q1 q2 q4 e0 e1' e2 e3 e4 hc0' hc1' hc2' hc3' hc4' d0 d1 hcl0 hcl1 hk0 hk1 hkx
        have hnz : ¬ (k : Int) + 1 = 0 := by omega
        have hrg : 0 ≤ (k : Int) + 1 ∧ (k : Int) + 1 ≤ m := by omega
        have HNZ := Lib.hid (And.intro hnz hrg)
        clear hnz hrg
        go_wp2_with fail
        refine (HAR5.out _ (hb28.alloc hb28.size _)).mono ?_
        rintro e w3 ⟨rfl, hb3⟩
        have hb23 : Below w2.heap.size w2 w3 := (hb28.alloc hb28.size _).trans (hb3.mono (by have := hb28.size; simp; omega))
        have hbw3 : Below w.heap.size w w3 := HBW2.out.trans (hb23.mono HBW2.out.size)
        have y1 : w3.cell? ⟨W8.heap.size, 1, none⟩ = some (.slice A5 dn5 c5) := by rw [hb3.cell (p := ⟨W8.heap.size, 1, none⟩) (by simp)]; simp
        clear hb3
        by_cases hl5 : ¬ ln5 = 0
        · have hne : ((ln5 : Int) == 0) = false := by simp; omega
          have HR2 : Hid (r = false) := Lib.hid (by rw [← HRR.out, HEL5.out]; simp [HNZ.out.1, hl5])
          clear hl5
          go_wp2
          go_ret
          exact ⟨ret_bool HR2.out.symm, hbw3⟩
        obtain rfl : ln5 = 0 := Decidable.not_not.1 hl5
        clear hl5
        obtain ⟨gz, oz, A6, c6, rfl, _, hgz, z0c, z1c, _, _, _⟩ := decl_at (HHD5.out.below RD_steady (Nat.le_refl _) hb23) (j := 0) (by omega)
        have hd05 : (D5.getD 0 default).2 = x5 := HX5.out.symm
        rw [hd05, show oz + 0 * 2 = oz by omega] at z1c
        rw [show oz + 0 * 2 = oz by omega] at z0c
        obtain ⟨z5, rfl⟩ : ∃ z : Nat, x5 = (z : Int) := ⟨x5.toNat, by omega⟩
        obtain ⟨gk2, ok2, hge, _, hkz⟩ := HKH.out.cellAt (j := z5) (by omega)
        simp only [Option.some.injEq, Addr.mk.injEq, and_true] at hge
        obtain ⟨rfl, rfl⟩ := hge
        rw [ivs_get _ z5 (by rw [nats_len]; omega), nats_get, ← hb23.cell (p := ⟨gk, ok + z5, none⟩) hgk] at hkz
        have HKZ : Hid (κ (z5 : Int) = K.getD z5 0) := Lib.hid (by rw [HKAP.out]; rfl)
        obtain ⟨f5, hf5⟩ : ∃ f, f = K.getD z5 0 := ⟨_, rfl⟩
        rw [← hf5] at hkz HKZ
        have l5 : z5 < n := by omega
        clear hf5 hd05
        by_cases h5 : f5 = f0
        · subst h5
          have HR2 : Hid (r = true) := Lib.hid (by rw [← HRR.out, HEL5.out, HEX5.out, HKZ.out]; simp [hlen2, HNZ.out.2])
          go_wp2
          go_ret
          exact ⟨ret_bool HR2.out.symm, hbw3⟩
        · have hne : ((f5 : Int) == (f0 : Int)) = false := by simp; omega
          have HR2 : Hid (r = false) := Lib.hid (by rw [← HRR.out, HEL5.out, HEX5.out, HKZ.out]; simp [HNZ.out.1, h5])
          clear h5
          go_wp2
          go_ret
          exact ⟨ret_bool HR2.out.symm, hbw3⟩
    | false =>
      have hu : ¬ u = 0 := fun e => hA ⟨rfl, rfl, e⟩
      have huz : (u == 0) = false := by simpa using hu
      have HUU := Lib.hid hu
      clear hA hu
      go_enter Tryz.func100, Tryz.ntmps100
      go_wp2_with fail
      refine (HAR.out _ (((Below.refl _ _).alloc (Nat.le_refl _) _).alloc (by simp) _)).mono ?_
      rintro e w1 ⟨rfl, hb1⟩
      have hbw1 : Below w.heap.size w w1 := (((Below.refl _ _).alloc (Nat.le_refl _) _).alloc (by simp) _).trans (hb1.mono (by simp; omega))
      have hs1 : w.heap.size + 1 < w1.heap.size := by have := hb1.size; simp at this; omega
      have hs1' : w.heap.size < w1.heap.size := by omega
      have k0 : w1.heap[w.heap.size]? = some (.cells #[.slice A n ca, .slice B Q.length cb, .slice (some ⟨g, o, none⟩) m cc] 40 (0, 0)) := by rw [hb1.block _ (by simp; omega), Below.heap_alloc _ _ _ (by simp)]; exact heap_at _ _ _ rfl
      have k1 : w1.heap[w.heap.size + 1]? = some (.cells #[.string (bstr nm), .slice A2 dn c2, .bool false, .bool false, .int .i64 u] 97 (0, 0)) := by rw [hb1.block _ (by simp)]; exact heap_at _ _ _ (by simp)
      have s0 : w1.cell? ⟨w.heap.size, 0, none⟩ = some (.slice A n ca) := cell_of_row w1 _ 0 _ _ _ k0
      have s1 : w1.cell? ⟨w.heap.size, 1, none⟩ = some (.slice B Q.length cb) := cell_of_row w1 _ 1 _ _ _ k0
      have s2 : w1.cell? ⟨w.heap.size, 2, none⟩ = some (.slice (some ⟨g, o, none⟩) m cc) := cell_of_row w1 _ 2 _ _ _ k0
      have o1 : w1.cell? ⟨w.heap.size + 1, 1, none⟩ = some (.slice A2 dn c2) := cell_of_row w1 _ 1 _ _ _ k1
      have o2 : w1.cell? ⟨w.heap.size + 1, 2, none⟩ = some (.bool false) := cell_of_row w1 _ 2 _ _ _ k1
      have o4 : w1.cell? ⟨w.heap.size + 1, 4, none⟩ = some (.int .i64 u) := cell_of_row w1 _ 4 _ _ _ k1
      clear hb1 k0 k1
      by_cases hln : ¬ ln = 2
      · have hne : ((ln : Int) != 2) = true := by simp; omega
        have HR2 := Lib.hid (HR1.out hln)
        clear hln
        go_wp2
        go_ret
        exact ⟨ret_bool HR2.out.symm, hbw1⟩
      obtain rfl : ln = 2 := Decidable.not_not.1 hln
      clear hln
      cases hin : inI u 0 (m : Int) with
      | false =>
        have HR2 := Lib.hid (HR3.out hin)
        have HL2 := Lib.hid (fun W => HL1.out false hin W)
        clear hin
        go_wp2_with fail
        refine (HL2.out _).mono ?_
        rintro e w2 ⟨rfl, rfl⟩
        go_wp2
        go_ret
        exact ⟨ret_bool HR2.out.symm, hbw1⟩
      | true =>
        have HL2 := Lib.hid (fun W => HL1.out true hin W)
        have HIN := Lib.hid hin
        clear hin
        go_wp2_with fail
        refine (HL2.out _).mono ?_
        rintro e w2 ⟨rfl, rfl⟩
        go_wp2_with fail
        refine (HKI.out _ hbw1).mono ?_
        rintro e w2 ⟨kv, rfl, hkv, hb2⟩
        obtain ⟨KA, kc, rfl, hkh⟩ := (Has.of_own hkv).shape (n := n) (by rw [ivs_len, nats_len]; exact hKl)
        have hbw2 := hbw1.trans (hb2.mono hbw1.size)
        have hs2 : w.heap.size + 1 < w2.heap.size := Nat.lt_of_lt_of_le hs1 hb2.size
        have t2 : w2.cell? ⟨w.heap.size, 2, none⟩ = some (.slice (some ⟨g, o, none⟩) m cc) := (hb2.cell (by exact hs1')).trans s2
        have q1 : w2.cell? ⟨w.heap.size + 1, 1, none⟩ = some (.slice A2 dn c2) := (hb2.cell (by exact hs1)).trans o1
        have q2 : w2.cell? ⟨w.heap.size + 1, 2, none⟩ = some (.bool false) := (hb2.cell (by exact hs1)).trans o2
        have q4 : w2.cell? ⟨w.heap.size + 1, 4, none⟩ = some (.int .i64 u) := (hb2.cell (by exact hs1)).trans o4
        have hDD : HasD 0 w2 (.slice A2 dn c2) D := HHD.out.below RD_steady (Nat.le_refl _) hbw2
        obtain ⟨gd, od, A3, c3, rfl, _, hgd, d0, d1, hhd, _, _⟩ := decl_at hDD (j := 0) (by omega)
        clear hDD
        have hd00 : D.getD 0 default = (L, x0) := HHD0.out
        rw [hd00, show od + 0 * 2 = od by omega] at d0 d1
        rw [hd00] at hhd
        have hlen2 : L.length = 2 := HLN.out.symm
        rw [show ((L, x0) : List Int × Int).1.length = 2 from hlen2] at d0 hhd
        obtain ⟨gl, ol, rfl, hgl, hcl0⟩ := hhd.has.cellAt (j := 0) (by omega)
        obtain ⟨gl2, ol2, hge, _, hcl1⟩ := hhd.has.cellAt (j := 1) (by omega)
        simp only [Option.some.injEq, Addr.mk.injEq, and_true] at hge
        obtain ⟨rfl, rfl⟩ := hge
        rw [ivs_get _ 0 (by show 0 < L.length; omega), Nat.add_zero] at hcl0
        rw [ivs_get _ 1 (by show 1 < L.length; omega)] at hcl1
        have r0 := HOKD.out.2.2 0 (by omega)
        have r1 := HOKD.out.2.2 1 (by omega)
        have r2 := HOKD.out.2.1
        have HRR := Lib.hid HR.out
        unfold axP at HRR
        obtain ⟨y0, hy0⟩ : ∃ y, y = L.getD 0 0 := ⟨_, rfl⟩
        obtain ⟨y1, hy1⟩ : ∃ y, y = L.getD 1 0 := ⟨_, rfl⟩
        rw [show ((L, x0) : List Int × Int).1.getD 0 0 = y0 from hy0.symm] at hcl0
        rw [show ((L, x0) : List Int × Int).1.getD 1 0 = y1 from hy1.symm] at hcl1
        rw [← hy0, ← hy1] at HRR
        rw [← hy0] at r0
        rw [← hy1] at r1
        rw [show ((L, x0) : List Int × Int).2 = x0 from rfl] at d1
        have r0' : 0 ≤ y0 ∧ y0 < n := by simpa [inN] using r0
        have r1' : 0 ≤ y1 ∧ y1 < n := by simpa [inN] using r1
        have r2' : 0 ≤ x0 ∧ x0 < n := by simpa [inN] using r2
        obtain ⟨z0, rfl⟩ : ∃ z : Nat, y0 = (z : Int) := ⟨y0.toNat, by omega⟩
        obtain ⟨z1, rfl⟩ : ∃ z : Nat, y1 = (z : Int) := ⟨y1.toNat, by omega⟩
        obtain ⟨zx, hzx⟩ : ∃ z : Nat, x0 = (z : Int) := ⟨x0.toNat, by omega⟩
        rw [hzx] at d1 r2'
        obtain ⟨gk, ok, rfl, hgk, hk0⟩ := hkh.cellAt (j := z0) (by omega)
        obtain ⟨gk2, ok2, hge, _, hk1⟩ := hkh.cellAt (j := z1) (by omega)
        simp only [Option.some.injEq, Addr.mk.injEq, and_true] at hge
        obtain ⟨rfl, rfl⟩ := hge
        obtain ⟨gk2, ok2, hge, _, hkx⟩ := hkh.cellAt (j := zx) (by omega)
        simp only [Option.some.injEq, Addr.mk.injEq, and_true] at hge
        obtain ⟨rfl, rfl⟩ := hge
        rw [ivs_get _ z0 (by rw [nats_len]; omega), nats_get] at hk0
        rw [ivs_get _ z1 (by rw [nats_len]; omega), nats_get] at hk1
        rw [ivs_get _ zx (by rw [nats_len]; omega), nats_get] at hkx
        have HKH := Lib.hid hkh
        have HK0 : Hid (κ (z0 : Int) = K.getD z0 0) := Lib.hid (by rw [HKAP.out]; rfl)
        have HK1 : Hid (κ (z1 : Int) = K.getD z1 0) := Lib.hid (by rw [HKAP.out]; rfl)
        have HKX : Hid (κ x0 = K.getD zx 0) := Lib.hid (by rw [HKAP.out, hzx]; rfl)
        rw [HK0.out, HK1.out, HKX.out] at HRR
        obtain ⟨f0, hf0⟩ : ∃ f, f = K.getD z0 0 := ⟨_, rfl⟩
        obtain ⟨f1, hf1⟩ : ∃ f, f = K.getD z1 0 := ⟨_, rfl⟩
        obtain ⟨fx, hfx⟩ : ∃ f, f = K.getD zx 0 := ⟨_, rfl⟩
        rw [← hf0] at hk0 HRR
        rw [← hf1] at hk1 HRR
        rw [← hfx] at hkx HRR
        have l0 : z0 < n := by omega
        have l1 : z1 < n := by omega
        have lx : zx < n := by omega
        have HFX := Lib.hid hfx
        have HXZ := Lib.hid hzx
        clear hf0 hf1 hfx r0 r1 r2 r0' r1' r2' hy0 hy1 hkh hkv hb2 hhd hd00 s0 s1 s2 o1 o2 o4 hzx
        have HBW2 := Lib.hid hbw2
        by_cases h01 : ¬ f0 = f1
        · have hne : ((f0 : Int) != (f1 : Int)) = true := by simp; omega
          have HR2 : Hid (r = false) := Lib.hid (by rw [← HRR.out]; simp [hlen2, h01, HUU.out])
          go_wp2
          go_quiet (fail)
          go_wp2
          go_ret
          exact ⟨ret_bool HR2.out.symm, by first | exact below_drewN (HBW2.out.alloc (by omega) _) _ | exact (HBW2.out.alloc (by omega) _)⟩
        obtain rfl : f0 = f1 := Decidable.not_not.1 h01
        clear h01
        by_cases hu0 : u = 0
        · have HR2 : Hid (r = true) := Lib.hid (by rw [← HRR.out]; simp [hlen2, hu0])
          subst hu0
          go_wp2
          go_quiet (fail)
          go_wp2
          go_ret
          exact ⟨ret_bool HR2.out.symm, by first | exact below_drewN (HBW2.out.alloc (by omega) _) _ | exact (HBW2.out.alloc (by omega) _)⟩
        have hup : 0 < u := by have := HIN.out; simp [inI] at this; omega
        by_cases h0x : ¬ f0 = fx
        · have hne : ((f0 : Int) != (fx : Int)) = true := by simp; omega
          have HR2 : Hid (r = false) := Lib.hid (by rw [← HRR.out]; simp [hlen2, h0x, hu0])
          go_wp2
          go_quiet (fail)
          go_wp2
          go_ret
          exact ⟨ret_bool HR2.out.symm, by first | exact below_drewN (HBW2.out.alloc (by omega) _) _ | exact (HBW2.out.alloc (by omega) _)⟩
        obtain rfl : f0 = fx := Decidable.not_not.1 h0x
        clear h0x
        have hum : u ≤ m := by have := HIN.out; simp [inI] at this; omega
        obtain ⟨k, rfl⟩ : ∃ k : Nat, u = (k : Int) + 1 := ⟨(u - 1).toNat, by omega⟩
        have hkm : k < m := by omega
        have hk1z : ((k : Int) + 1 == 0) = false := by simp; omega
        obtain ⟨g5, o5, A5, c5, hge, _, hg5, e0, e1, e2, e3, e4, hh5, _, _⟩ := op_at (HOO.out _ hbw2) hkm
        simp only [Option.some.injEq, Addr.mk.injEq, and_true] at hge
        obtain ⟨rfl, rfl⟩ := hge
        have HU := HUN.out k hkm rfl
        have HDK := Lib.hid (declsOk_parts (HDO.out k hkm))
        have HUE := Lib.hid (And.intro HEL.out HEX.out)
        rw [HU] at HUE
        obtain ⟨⟨nm5, D5, a5, b5, u5⟩, hd5⟩ : ∃ d, d = O.getD k default := ⟨_, rfl⟩
        rw [← hd5] at e0 e1 e2 e3 e4 hh5 HDK HUE
        have HAR5 := Lib.hid (fun W (hW : Below w2.heap.size w2 W) => l4Arity_any nm5 D5 HDK.out.1 _ a5 b5 u5 W (hh5.below RD_steady (Nat.le_refl _) hW))
        have HHD5 := Lib.hid hh5
        have hdl5 := hh5.len.2.1
        have h15 : 1 ≤ D5.length := HDK.out.1
        obtain ⟨dn5, hdn5⟩ : ∃ dn5, dn5 = D5.length := ⟨_, rfl⟩
        have e1' : w2.cell? ⟨g, o + k * 5 + 1, none⟩ = some (.slice A5 dn5 c5) := by rw [hdn5]; exact e1
        rw [show D5.length = dn5 from hdn5.symm] at HHD5 hdl5 HAR5 h15
        have HOK5 := Lib.hid (okD_parts HDK.out.2.2.2)
        obtain ⟨ln5, hln5⟩ : ∃ ln5, ln5 = (hd0 D5).1.length := ⟨_, rfl⟩
        obtain ⟨x5, hx5⟩ : ∃ x5, x5 = (hd0 D5).2 := ⟨_, rfl⟩
        have HEL5 : Hid (eL = ln5) := Lib.hid (by rw [hln5]; exact HUE.out.1)
        have HEX5 : Hid (ex = x5) := Lib.hid (by rw [hx5]; exact HUE.out.2)
        have hR5 : inN n x5 = true := by rw [hx5]; exact HOK5.out.2.1
        rw [← hln5] at HAR5
        have HX5 := Lib.hid hx5
        have hR5' : 0 ≤ x5 ∧ x5 < n := by simpa [inN] using hR5
        clear hd5 hh5 hdn5 e1 hR5 hln5 hx5 HU
        go_wp2
        go_quiet (fail)
        generalize hW8 : ((w2.alloc (.cells #[.slice (some ⟨gl, ol, none⟩) 2 c3, .int .i64 (zx : Int)] 191)).drewN nq) = W8
        have hb28 : Below w2.heap.size w2 W8 := by rw [← hW8]; exact below_drewN ((Below.refl _ _).alloc (Nat.le_refl _) _) _
        have T2 : W8.cell? ⟨w.heap.size, 2, none⟩ = some (.slice (some ⟨g, o, none⟩) m cc) := (hb28.cell (by show w.heap.size < w2.heap.size; omega)).trans t2
        have Q2 : W8.cell? ⟨w.heap.size + 1, 2, none⟩ = some (.bool false) := (hb28.cell (by exact hs2)).trans q2
        have Q4 : W8.cell? ⟨w.heap.size + 1, 4, none⟩ = some (.int .i64 ((k : Int) + 1)) := (hb28.cell (by exact hs2)).trans q4
        have E0 : W8.cell? ⟨g, o + k * 5, none⟩ = _ := (hb28.cell (by exact hg5)).trans e0
        have E1 : W8.cell? ⟨g, o + k * 5 + 1, none⟩ = _ := (hb28.cell (by exact hg5)).trans e1'
        have E2 : W8.cell? ⟨g, o + k * 5 + 2, none⟩ = _ := (hb28.cell (by exact hg5)).trans e2
        have E3 : W8.cell? ⟨g, o + k * 5 + 3, none⟩ = _ := (hb28.cell (by exact hg5)).trans e3
        have E4 : W8.cell? ⟨g, o + k * 5 + 4, none⟩ = _ := (hb28.cell (by exact hg5)).trans e4
        clear hW8 t2 q1 q2 q4 e0 e1' e2 e3 e4 hc0' hc1' hc2' hc3' hc4' d0 d1 hcl0 hcl1 hk0 hk1 hkx
        have hnz : ¬ (k : Int) + 1 = 0 := by omega
        have hrg : 0 ≤ (k : Int) + 1 ∧ (k : Int) + 1 ≤ m := by omega
        have HNZ := Lib.hid (And.intro hnz hrg)
        clear hnz hrg
        go_wp2_with fail
        refine (HAR5.out _ (hb28.alloc hb28.size _)).mono ?_
        rintro e w3 ⟨rfl, hb3⟩
        have hb23 : Below w2.heap.size w2 w3 := (hb28.alloc hb28.size _).trans (hb3.mono (by have := hb28.size; simp; omega))
        have hbw3 : Below w.heap.size w w3 := HBW2.out.trans (hb23.mono HBW2.out.size)
        have y1 : w3.cell? ⟨W8.heap.size, 1, none⟩ = some (.slice A5 dn5 c5) := by rw [hb3.cell (p := ⟨W8.heap.size, 1, none⟩) (by simp)]; simp
        clear hb3
        by_cases hl5 : ¬ ln5 = 0
        · have hne : ((ln5 : Int) == 0) = false := by simp; omega
          have HR2 : Hid (r = false) := Lib.hid (by rw [← HRR.out, HEL5.out]; simp [HNZ.out.1, hl5])
          clear hl5
          go_wp2
          go_ret
          exact ⟨ret_bool HR2.out.symm, hbw3⟩
        obtain rfl : ln5 = 0 := Decidable.not_not.1 hl5
        clear hl5
        obtain ⟨gz, oz, A6, c6, rfl, _, hgz, z0c, z1c, _, _, _⟩ := decl_at (HHD5.out.below RD_steady (Nat.le_refl _) hb23) (j := 0) (by omega)
        have hd05 : (D5.getD 0 default).2 = x5 := HX5.out.symm
        rw [hd05, show oz + 0 * 2 = oz by omega] at z1c
        rw [show oz + 0 * 2 = oz by omega] at z0c
        obtain ⟨z5, rfl⟩ : ∃ z : Nat, x5 = (z : Int) := ⟨x5.toNat, by omega⟩
        obtain ⟨gk2, ok2, hge, _, hkz⟩ := HKH.out.cellAt (j := z5) (by omega)
        simp only [Option.some.injEq, Addr.mk.injEq, and_true] at hge
        obtain ⟨rfl, rfl⟩ := hge
        rw [ivs_get _ z5 (by rw [nats_len]; omega), nats_get, ← hb23.cell (p := ⟨gk, ok + z5, none⟩) hgk] at hkz
        have HKZ : Hid (κ (z5 : Int) = K.getD z5 0) := Lib.hid (by rw [HKAP.out]; rfl)
        obtain ⟨f5, hf5⟩ : ∃ f, f = K.getD z5 0 := ⟨_, rfl⟩
        rw [← hf5] at hkz HKZ
        have l5 : z5 < n := by omega
        clear hf5 hd05
        by_cases h5 : f5 = f0
        · subst h5
          have HR2 : Hid (r = true) := Lib.hid (by rw [← HRR.out, HEL5.out, HEX5.out, HKZ.out]; simp [hlen2, HNZ.out.2])
          go_wp2
          go_ret
          exact ⟨ret_bool HR2.out.symm, hbw3⟩
        · have hne : ((f5 : Int) == (f0 : Int)) = false := by simp; omega
          have HR2 : Hid (r = false) := Lib.hid (by rw [← HRR.out, HEL5.out, HEX5.out, HKZ.out]; simp [HNZ.out.1, h5])
          clear h5
          go_wp2
          go_ret
          exact ⟨ret_bool HR2.out.symm, hbw3⟩
end Go.Proofs.YtjejdcehlckfhaaGreat.siga
