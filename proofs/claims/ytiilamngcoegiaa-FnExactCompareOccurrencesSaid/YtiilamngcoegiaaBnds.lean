/-
  THE MODEL'S CompareSubstitutions.
-/
import Derived.Test.YtiilamngcoegiaaBndl
import Derived.Test.YtiilamngcoegiaaTermv
import Derived.BigQuiet
namespace Go.Proofs.Ytiilamngcoegiaa.bnds
open Go.ChangeShapes Go.WideShapes Go.ChangeAt Go.RowKit
open mem rowl trm trmv terml termb termt termx termv bndl

set_option maxRecDepth 20000 in
set_option maxHeartbeats 4000000 in
/-- spec.CompareSubstitutions -/
theorem sCompareS_any {n : Nat} (L M : List BindM) (va vb : Value) (w : World) {lo lo' : Nat} (ha : HasBs n lo w va L) (hb : HasBs n lo' w vb M) :
    Calls Try.prog 25 #[va, vb] w fun e w' => e = .returned (.int .i64 (cmpQs L M)) ∧ Below w.heap.size w w' := by
  obtain ⟨N, hN⟩ : ∃ N, N = L.length := ⟨_, rfl⟩
  obtain ⟨m, hm⟩ : ∃ m, m = M.length := ⟨_, rfl⟩
  obtain ⟨A, ca, rfl, ha⟩ := HasR.shape ha hN.symm
  obtain ⟨B, cb, rfl, hb⟩ := HasR.shape hb hm.symm
  have hla := ha.len.2.1
  have hlb := hb.len.2.1
  have HA := Lib.hid ha
  have HB := Lib.hid hb
  have HN := Lib.hid hN
  have HM := Lib.hid hm
  obtain ⟨z, hz⟩ : ∃ z, z = cmpQs L M := ⟨_, rfl⟩
  have HZ := Lib.hid hz
  rw [← hz]
  clear ha hb hN hm hz
  go_enter Try.func25, Try.ntmps25
  go_wp2
  go_loopw [5] (fun v5 wr => ∃ k : Nat, v5 = .int .i64 k ∧ k ≤ N ∧ k ≤ m ∧ Hid (∀ i, i < k → cmpQ (L.getD i default) (M.getD i default) = 0) ∧ Hid (Below w.heap.size w wr)) (fun i _ => N - (intOf i).toNat)
  case atStart => exact ⟨0, rfl, Nat.zero_le _, Nat.zero_le _, Lib.hid (fun i hi => by omega), Lib.hid (Below.refl _ _)⟩
  case round =>
    obtain ⟨k, rfl, hk, hkm, HQ, HG⟩ := hrel
    by_cases hlt : k < N
    · by_cases hlm : k < m
      · obtain ⟨ga, oa, A1, a1, A2, a2, rfl, hga, hca, h1, h2, _, _⟩ := bind_at HA.out hlt
        obtain ⟨gb, ob, B1, b1, B2, b2, rfl, hgb, hcb, h3, h4, _, _⟩ := bind_at HB.out hlm
        have hca' := hca.below HG.out
        have hcb' := hcb.below HG.out
        obtain ⟨x, hx⟩ : ∃ b, b = L.getD k default := ⟨_, rfl⟩
        obtain ⟨y, hy⟩ : ∃ b, b = M.getD k default := ⟨_, rfl⟩
        rw [← hx] at hca' h1 h2
        rw [← hy] at hcb' h3 h4
        obtain ⟨r, hr⟩ : ∃ q, q = cmp x.v y.v := ⟨_, rfl⟩
        obtain ⟨s, hs⟩ : ∃ q, q = cmp x.t y.t := ⟨_, rfl⟩
        have HQK : Hid (cmpQ (L.getD k default) (M.getD k default) = if r ≠ 0 then r else s) := Lib.hid (by rw [hr, hs, hx, hy]; rfl)
        have HV : Hid (∀ t : BoxC (Below wr.heap.size wr), Calls Try.prog 40 #[.agg #[.int .i64 x.v.op, .string (bstr x.v.name), .int .i64 x.v.sort, .slice A1 x.v.args.length a1], .agg #[.int .i64 y.v.op, .string (bstr y.v.name), .int .i64 y.v.sort, .slice B1 y.v.args.length b1]] t.W fun e w' => e = .returned (.int .i64 r) ∧ Below t.W.heap.size t.W w') := Lib.hid (fun t => by
          rw [hr]
          exact scmp_any x.v y.v _ _ t.W (h1.below (Nat.le_refl _) (HG.out.trans (t.h.mono HG.out.size))) (h3.below (Nat.le_refl _) (HG.out.trans (t.h.mono HG.out.size))))
        have HT : Hid (∀ W, Below wr.heap.size wr W → ∀ t : BoxC (Below W.heap.size W), Calls Try.prog 40 #[.agg #[.int .i64 x.t.op, .string (bstr x.t.name), .int .i64 x.t.sort, .slice A2 x.t.args.length a2], .agg #[.int .i64 y.t.op, .string (bstr y.t.name), .int .i64 y.t.sort, .slice B2 y.t.args.length b2]] t.W fun e w' => e = .returned (.int .i64 s) ∧ Below t.W.heap.size t.W w') := Lib.hid (fun W hW t => by
          have hwt := HG.out.trans ((hW.trans (t.h.mono hW.size)).mono HG.out.size)
          rw [hs]
          exact scmp_any x.t y.t _ _ t.W (h2.below (Nat.le_refl _) hwt) (h4.below (Nat.le_refl _) hwt))
        have HC : Hid (∀ W, Below wr.heap.size wr W → Cells8 W ga (oa + k * 8) x A1 a1 A2 a2 ∧ Cells8 W gb (ob + k * 8) y B1 b1 B2 b2) := Lib.hid (fun W hW => ⟨hca'.below hW, hcb'.below hW⟩)
        unfold Cells8 at HC
        obtain ⟨xo1, hxo1⟩ : ∃ q, q = x.v.op := ⟨_, rfl⟩
        rw [← hxo1] at HC HV
        obtain ⟨xn1, hxn1⟩ : ∃ q, q = x.v.name := ⟨_, rfl⟩
        rw [← hxn1] at HC HV
        obtain ⟨xs1, hxs1⟩ : ∃ q, q = x.v.sort := ⟨_, rfl⟩
        rw [← hxs1] at HC HV
        obtain ⟨xk1, hxk1⟩ : ∃ q, q = x.v.args.length := ⟨_, rfl⟩
        rw [← hxk1] at HC HV
        obtain ⟨xo2, hxo2⟩ : ∃ q, q = x.t.op := ⟨_, rfl⟩
        rw [← hxo2] at HC HT
        obtain ⟨xn2, hxn2⟩ : ∃ q, q = x.t.name := ⟨_, rfl⟩
        rw [← hxn2] at HC HT
        obtain ⟨xs2, hxs2⟩ : ∃ q, q = x.t.sort := ⟨_, rfl⟩
        rw [← hxs2] at HC HT
        obtain ⟨xk2, hxk2⟩ : ∃ q, q = x.t.args.length := ⟨_, rfl⟩
        rw [← hxk2] at HC HT
        clear hxo1 hxn1 hxs1 hxk1 hxo2 hxn2 hxs2 hxk2
        obtain ⟨yo1, hyo1⟩ : ∃ q, q = y.v.op := ⟨_, rfl⟩
        rw [← hyo1] at HC HV
        obtain ⟨yn1, hyn1⟩ : ∃ q, q = y.v.name := ⟨_, rfl⟩
        rw [← hyn1] at HC HV
        obtain ⟨ys1, hys1⟩ : ∃ q, q = y.v.sort := ⟨_, rfl⟩
        rw [← hys1] at HC HV
        obtain ⟨yk1, hyk1⟩ : ∃ q, q = y.v.args.length := ⟨_, rfl⟩
        rw [← hyk1] at HC HV
        obtain ⟨yo2, hyo2⟩ : ∃ q, q = y.t.op := ⟨_, rfl⟩
        rw [← hyo2] at HC HT
        obtain ⟨yn2, hyn2⟩ : ∃ q, q = y.t.name := ⟨_, rfl⟩
        rw [← hyn2] at HC HT
        obtain ⟨ys2, hys2⟩ : ∃ q, q = y.t.sort := ⟨_, rfl⟩
        rw [← hys2] at HC HT
        obtain ⟨yk2, hyk2⟩ : ∃ q, q = y.t.args.length := ⟨_, rfl⟩
        rw [← hyk2] at HC HT
        clear hyo1 hyn1 hys1 hyk1 hyo2 hyn2 hys2 hyk2
        have c0 := fun t : BoxC (Below wr.heap.size wr) => (HC.out t.W t.h).1.1.1
        have c1 := fun t : BoxC (Below wr.heap.size wr) => (HC.out t.W t.h).1.1.2.1
        have c2 := fun t : BoxC (Below wr.heap.size wr) => (HC.out t.W t.h).1.1.2.2.1
        have c3 := fun t : BoxC (Below wr.heap.size wr) => (HC.out t.W t.h).1.1.2.2.2
        have d0 := fun t : BoxC (Below wr.heap.size wr) => (HC.out t.W t.h).2.1.1
        have d1 := fun t : BoxC (Below wr.heap.size wr) => (HC.out t.W t.h).2.1.2.1
        have d2 := fun t : BoxC (Below wr.heap.size wr) => (HC.out t.W t.h).2.1.2.2.1
        have d3 := fun t : BoxC (Below wr.heap.size wr) => (HC.out t.W t.h).2.1.2.2.2
        have nb : Nonempty (BoxC (Below wr.heap.size wr)) := ⟨⟨_, Below.refl _ _⟩⟩
        have i1 : (0 : Int) ≤ (k : Int) := by omega
        have i2 : (k : Int) < (N : Int) := by omega
        have i3 : (k : Int) < (m : Int) := by omega
        have i4 : decide ((k : Int) < (N : Int)) = true := decide_eq_true (by omega)
        have i5 : decide ((k : Int) < (m : Int)) = true := decide_eq_true (by omega)
        clear hca hcb hca' hcb' h1 h2 h3 h4 hx hy hr hs
        go_wp2_with fail
        refine region_boxC (C := Below wr.heap.size wr) (by kernel_rfl) (by kernel_rfl) (Below.refl _ _).drew ?_
        repeat go_big_quiet_step ((go_at_call 40; exact (HV.out _).mono (fun _ _ h => ⟨h.1, BoxC.step _ h.2⟩)))
        refine wpQuiet_nil ?_
        rintro w5 ⟨t5, rfl⟩
        have HB5 := Lib.hid t5.h
        obtain ⟨W5, hW5⟩ : ∃ W5, W5 = t5.W := ⟨_, rfl⟩
        rw [← hW5] at HB5 ⊢
        clear c0 c1 c2 c3 d0 d1 d2 d3 nb HV hW5
        by_cases h0 : r = 0
        · have e1 : (r == 0) = true := by rw [h0]; rfl
          have e2 : decide (r = 0) = true := decide_eq_true h0
          have HQR : Hid (cmpQ (L.getD k default) (M.getD k default) = s) := Lib.hid (by rw [HQK.out, if_neg (by simpa using h0)])
          have c4 := fun t : BoxC (Below W5.heap.size W5) => (HC.out t.W (HB5.out.trans (t.h.mono HB5.out.size))).1.2.1
          have c5 := fun t : BoxC (Below W5.heap.size W5) => (HC.out t.W (HB5.out.trans (t.h.mono HB5.out.size))).1.2.2.1
          have c6 := fun t : BoxC (Below W5.heap.size W5) => (HC.out t.W (HB5.out.trans (t.h.mono HB5.out.size))).1.2.2.2.1
          have c7 := fun t : BoxC (Below W5.heap.size W5) => (HC.out t.W (HB5.out.trans (t.h.mono HB5.out.size))).1.2.2.2.2
          have d4 := fun t : BoxC (Below W5.heap.size W5) => (HC.out t.W (HB5.out.trans (t.h.mono HB5.out.size))).2.2.1
          have d5 := fun t : BoxC (Below W5.heap.size W5) => (HC.out t.W (HB5.out.trans (t.h.mono HB5.out.size))).2.2.2.1
          have d6 := fun t : BoxC (Below W5.heap.size W5) => (HC.out t.W (HB5.out.trans (t.h.mono HB5.out.size))).2.2.2.2.1
          have d7 := fun t : BoxC (Below W5.heap.size W5) => (HC.out t.W (HB5.out.trans (t.h.mono HB5.out.size))).2.2.2.2.2
          have nb : Nonempty (BoxC (Below W5.heap.size W5)) := ⟨⟨_, Below.refl _ _⟩⟩
          have HT5 := Lib.hid (HT.out W5 HB5.out)
          clear HT h0
          go_wp2_with fail
          refine region_boxC (C := Below W5.heap.size W5) (by kernel_rfl) (by kernel_rfl) (Below.refl _ _).drew ?_
          repeat go_big_quiet_step ((go_at_call 40; exact (HT5.out _).mono (fun _ _ h => ⟨h.1, BoxC.step _ h.2⟩)))
          refine wpQuiet_nil ?_
          rintro w6 ⟨t6, rfl⟩
          have HB6 := Lib.hid (HG.out.trans ((HB5.out.trans (t6.h.mono HB5.out.size)).mono HG.out.size))
          obtain ⟨W6, hW6⟩ : ∃ W6, W6 = t6.W := ⟨_, rfl⟩
          rw [← hW6] at HB6 ⊢
          clear c4 c5 c6 c7 d4 d5 d6 d7 nb HT5 hW6 e1 e2
          by_cases h1 : s = 0
          · have HQ2 : Hid (∀ i, i < k + 1 → cmpQ (L.getD i default) (M.getD i default) = 0) := Lib.hid (fun i hi => by
              by_cases e : i = k
              · subst e; rw [HQR.out]; exact h1
              · exact HQ.out i (by omega))
            have g1 : (s != 0) = false := by rw [h1]; rfl
            have g2 : decide (s = 0) = true := decide_eq_true h1
            subst h1
            go_wp2
            go_roundw
            case rel => exact ⟨k + 1, by go_num, by omega, by omega, HQ2, HB6⟩
            case measure => simp [intOf]; omega
          · have HE : Hid (z = s) := Lib.hid (by rw [HZ.out, ← HQR.out]; exact cmpQs_step (by have := HN.out; omega) (by have := HM.out; omega) HQ.out (by rw [HQR.out]; exact h1))
            have g1 : (s != 0) = true := by simpa using h1
            have g2 : decide (s = 0) = false := decide_eq_false h1
            go_wp2
            go_ret
            exact ⟨ret_int HE.out.symm, HB6.out⟩
        · have HQR : Hid (cmpQ (L.getD k default) (M.getD k default) = r) := Lib.hid (by rw [HQK.out, if_pos h0])
          have HE : Hid (z = r) := Lib.hid (by rw [HZ.out, ← HQR.out]; exact cmpQs_step (by have := HN.out; omega) (by have := HM.out; omega) HQ.out (by rw [HQR.out]; exact h0))
          have e1 : (r == 0) = false := by simpa using h0
          have e2 : decide (r = 0) = false := decide_eq_false h0
          have g1 : (r != 0) = true := by simpa using h0
          have HB6 := Lib.hid (HG.out.trans (HB5.out.mono HG.out.size))
          clear HT
          go_wp2
          go_ret
          exact ⟨ret_int HE.out.symm, HB6.out⟩
      · have HE : Hid (z = 1) := Lib.hid (by
          rw [HZ.out, cmpQs_end (fun i hi hj => HQ.out i (by have := HM.out; omega)), if_neg (by have := HN.out; have := HM.out; omega), if_pos (by have := HN.out; have := HM.out; omega)])
        have i4 : decide ((k : Int) < (N : Int)) = true := decide_eq_true (by omega)
        have i5 : decide ((k : Int) < (m : Int)) = false := decide_eq_false (by omega)
        obtain rfl : k = m := by omega
        go_wp2
        go_ret
        exact ⟨ret_int HE.out.symm, HG.out⟩
    · obtain rfl : k = N := by omega
      have i4 : decide ((k : Int) < (k : Int)) = false := decide_eq_false (by omega)
      by_cases hlm : k < m
      · have HE : Hid (z = -1) := Lib.hid (by
          rw [HZ.out, cmpQs_end (fun i hi hj => HQ.out i (by have := HN.out; omega)), if_pos (by have := HN.out; have := HM.out; omega)])
        go_wp2
        go_ret
        exact ⟨ret_int HE.out.symm, HG.out⟩
      · have HE : Hid (z = 0) := Lib.hid (by
          rw [HZ.out, cmpQs_end (fun i hi hj => HQ.out i (by have := HN.out; omega)), if_neg (by have := HN.out; have := HM.out; omega), if_neg (by have := HN.out; have := HM.out; omega)])
        obtain rfl : k = m := by omega
        go_wp2
        go_ret
        exact ⟨ret_int HE.out.symm, HG.out⟩
end Go.Proofs.Ytiilamngcoegiaa.bnds
