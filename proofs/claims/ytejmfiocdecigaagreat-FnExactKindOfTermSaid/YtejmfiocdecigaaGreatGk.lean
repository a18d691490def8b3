/-
  Formkd, Formlk, merged.
-/
import Derived.Test.YtejmfiocdecigaaGreatGy
import Derived.Test.YtejmfiocdecigaaGreatSige
import Derived.Test.YtejmfiocdecigaaGreatTermu
/-
  KindOfTerm: the model's and the program's.
-/
namespace Go.Proofs.YtejmfiocdecigaaGreat.formkd
open Go.ChangeShapes Go.WideShapes Go.ChangeAt Go.RowKit
open mem dec setm sets sortm sortn sortp sorti sortf sortu sortg sigm sigs sigt sigl rowl trm trmv terml termb termt termx termz termro termsd termv termvr termvo termev frm termlm sigi sigj sigk gram gramo graml gramk gramc gramn gramt grami formlf formnd formk formr formf formt formm

set_option maxRecDepth 50000 in
set_option maxHeartbeats 8000000 in
/-- spec.KindOfTerm -/
theorem sKindOf_any {N lo : Nat} (P : List (List UInt8)) (Q : List (Int × Int)) (O : List OpM) (va vb vc : Value) (t : TermM) (ve : Value) (w : World) (h : HasG w va vb vc P Q O) (ht : HasTs N lo w ve t.args) (hB : Bnd t) (hsz : sizes t.args ≤ 1048576) (z : Bool) (hz : z = true ↔ STerm P Q O t) :
    Calls Tryz.prog 27 #[.agg #[va, vb, vc], aggT t ve] w fun e w' => e = .returned (.int .i64 (if z = true then ((κK P.length Q (srtT O t) : Nat) : Int) else -1)) ∧ Below w.heap.size w w' := by
  have HIT := Lib.hid (fun W (hW : Below w.heap.size w W) => sIsTerm_any P Q O va vb vc t ve W (h.below (Nat.le_refl _) hW) (ht.below (Nat.le_refl _) hW) hB hsz z hz)
  have HKD : Hid (z = true → ∀ W, Below w.heap.size w W → Calls Tryz.prog 64 #[.agg #[va, vb, vc], aggT t ve] W fun e w' => e = .returned (.int .i64 ((κK P.length Q (srtT O t) : Nat) : Int)) ∧ Below W.heap.size W w') := Lib.hid (fun hzt W hW => by
    have hs := hz.1 hzt
    exact sKind_any P Q O hs.1 va vb vc t ve W (h.below (Nat.le_refl _) hW) (ht.below (Nat.le_refl _) hW) (range_of_node ((formS_eta P Q O t).1 hs.2.2).1))
  obtain ⟨B, cb, rfl, _⟩ := HasR.shape ht rfl
  obtain ⟨A1, c1, A2, c2, A3, c3, rfl, rfl, rfl, _⟩ := h.shape
  unfold aggT at HIT HKD ⊢
  obtain ⟨kk, hkk⟩ : ∃ k : Nat, k = κK P.length Q (srtT O t) := ⟨_, rfl⟩
  obtain ⟨q, hq⟩ : ∃ q, q = t.args.length := ⟨_, rfl⟩
  obtain ⟨to, hto⟩ : ∃ q, q = t.op := ⟨_, rfl⟩
  obtain ⟨tn, htn⟩ : ∃ q, q = t.name := ⟨_, rfl⟩
  obtain ⟨ts, hts⟩ : ∃ q, q = t.sort := ⟨_, rfl⟩
  obtain ⟨m1, hm1⟩ : ∃ q, q = P.length := ⟨_, rfl⟩
  obtain ⟨m2, hm2⟩ : ∃ q, q = Q.length := ⟨_, rfl⟩
  obtain ⟨m3, hm3⟩ : ∃ q, q = O.length := ⟨_, rfl⟩
  rw [← hkk] at HKD ⊢
  rw [← hq, ← hto, ← htn, ← hts, ← hm1, ← hm2, ← hm3] at HIT HKD ⊢
  clear h ht hB hsz hz hkk hq hto htn hts hm1 hm2 hm3
  obtain ⟨W, hW⟩ : ∃ W, W = (w.alloc (.cells #[.slice A1 m1 c1, .slice A2 m2 c2, .slice A3 m3 c3] 30)).alloc (.cells #[.int .i64 to, .string (bstr tn), .int .i64 ts, .slice B q cb] 33) := ⟨_, rfl⟩
  have hb0 : Below w.heap.size w W := by
    rw [hW]
    repeat (first | exact Below.refl _ _ | refine Below.alloc ?_ (by first | (simp; done) | (simp; omega)) _)
  have hX0 : Box34 w.heap.size (w.heap.size + 1) (.slice A1 m1 c1) (.slice A2 m2 c2) (.slice A3 m3 c3) (.int .i64 to) (.string (bstr tn)) (.int .i64 ts) (.slice B q cb) W := by
    rw [hW]
    exact ⟨box3 (heap2a _ _ _), box4 (heap_at _ _ _ (by simp))⟩
  have HX := Lib.hid hX0
  have HB0 := Lib.hid hb0
  clear hb0 hX0
  go_enter Tryz.func27, Tryz.ntmps27
  go_wp2_with fail
  rw [← hW]
  clear hW
  refine (HIT.out _ HB0.out).mono ?_
  rintro e w1 ⟨rfl, hb1⟩
  have HB1 := Lib.hid (HB0.out.trans (hb1.mono HB0.out.size))
  have HX1 := Lib.hid (Box34.below HX.out hb1)
  clear hb1
  cases z with
  | false =>
    go_wp2
    go_ret
    exact ⟨rfl, HB1.out⟩
  | true =>
    obtain ⟨⟨x0, x1, x2⟩, y0, y1, y2, y3⟩ := HX1.out
    go_wp2_with fail
    refine (HKD.out (by trivial) _ HB1.out).mono ?_
    rintro e w2 ⟨rfl, hb2⟩
    have HB2 := Lib.hid (HB1.out.trans (hb2.mono HB1.out.size))
    clear hb2 x0 x1 x2 y0 y1 y2 y3
    go_wp2
    go_ret
    exact ⟨rfl, HB2.out⟩
set_option maxRecDepth 50000 in
set_option maxHeartbeats 8000000 in
/-- impl.KindOfTerm -/
theorem iKindOf_any {N lo : Nat} (P : List (List UInt8)) (Q : List (Int × Int)) (O : List OpM) (va vb vc : Value) (t : TermM) (ve : Value) (w : World) (h : HasG w va vb vc P Q O) (ht : HasTs N lo w ve t.args) (hB : Bnd t) (hsz : sizes t.args ≤ 1048576) (z : Bool) (hz : z = true ↔ STerm P Q O t) :
    Calls Tryz.prog 28 #[.agg #[va, vb, vc], aggT t ve] w fun e w' => e = .returned (.int .i64 (if z = true then ((κK P.length Q (srtT O t) : Nat) : Int) else -1)) ∧ Below w.heap.size w w' := by
  have HGR := Lib.hid (fun W (hW : Below w.heap.size w W) => grammarOf_any P Q O va vb vc W (h.below (Nat.le_refl _) hW))
  obtain ⟨B, cb, rfl, _⟩ := HasR.shape ht rfl
  obtain ⟨A1, c1, A2, c2, A3, c3, rfl, rfl, rfl, _⟩ := h.shape
  obtain ⟨G, hG⟩ : ∃ G, G = grM P Q O := ⟨_, rfl⟩
  have hGO : GrOk G := by rw [hG]; exact grOk_gr P Q O
  have HIT : Hid (∀ W mm A c, Below w.heap.size w W → HasM W (.map mm) (.slice A G.E.length c) G → Calls Tryz.prog 50 #[.agg #[.map mm, .slice A G.E.length c], aggT t (.slice B t.args.length cb)] W fun e w' => e = .returned (.bool z) ∧ Below W.heap.size W w') := Lib.hid (fun W mm A c hW hM => by
    refine (isTerm_any G hGO (.map mm) A _ c t _ W hM rfl (ht.below (Nat.le_refl _) hW) hB hsz).mono ?_
    rintro e w' ⟨r, rfl, hr, hb⟩
    have : r = z := by
      rw [Bool.eq_iff_iff, hr, hz, STerm, hG]
      exact gterm_iff t
    exact ⟨by rw [this], hb⟩)
  have HKO : Hid (∀ W mm A c (g o : Nat), HasM W (.map mm) (.slice A G.E.length c) G → W.cell? ⟨g, o, none⟩ = some (.int .i64 t.op) → W.cell? ⟨g, o + 2, none⟩ = some (.int .i64 t.sort) → Calls Tryz.prog 65 #[.agg #[.map mm, .slice A G.E.length c], .pointer (some ⟨g, o, none⟩)] W fun e w' => e = .returned (.int .u16 ((gKind G t : Nat) : Int)) ∧ Below W.heap.size W w') := Lib.hid (fun W mm A c g o hM h0 h2 => kindOf_any G (.map mm) A _ c t g o W hM rfl h0 h2 hB)
  have HKK : Hid (z = true → 0 < (els (gKind G t)).length ∧ (els (gKind G t)).getD 0 0 = κK P.length Q (srtT O t) ∧ gKind G t < 65536) := Lib.hid (fun hzt => by
    have hs := hz.1 hzt
    obtain ⟨p1, p2, p3, p4, p5⟩ := okS_parts (sigOk_parts hs.1).1
    have hR := range_of_node ((formS_eta P Q O t).1 hs.2.2).1
    have hin := srt_in hs.1 hR
    simp only [inN, decide_eq_true_eq] at hin
    obtain ⟨j, hj⟩ : ∃ j : Nat, srtT O t = (j : Int) := ⟨(srtT O t).toNat, by omega⟩
    have hjP : j < P.length := by omega
    have hU : kindsU P Q = clo P.length (both (prs Q)) := by rw [kindsU, if_pos (sigOk_parts hs.1).1]
    obtain ⟨g1, g2⟩ := kin_head p3.inR (by omega) hjP
    have hclt := clo_lt (both_in p3.inR) j
    have hp2 := pow8 p2
    have e1 : gKind G t = (clo P.length (both (prs Q))).getD j 0 := by
      rw [hG, gKind_eq hs.1 hR, hj, hU, κU, Int.toNat_natCast]
    rw [e1, hj, κK, Int.toNat_natCast]
    exact ⟨g1, g2, by omega⟩)
  unfold aggT at HIT ⊢
  obtain ⟨kk, hkk⟩ : ∃ k : Nat, k = κK P.length Q (srtT O t) := ⟨_, rfl⟩
  obtain ⟨gk, hgk⟩ : ∃ k : Nat, k = gKind G t := ⟨_, rfl⟩
  obtain ⟨q, hq⟩ : ∃ q, q = t.args.length := ⟨_, rfl⟩
  obtain ⟨to, hto⟩ : ∃ q, q = t.op := ⟨_, rfl⟩
  obtain ⟨tn, htn⟩ : ∃ q, q = t.name := ⟨_, rfl⟩
  obtain ⟨ts, hts⟩ : ∃ q, q = t.sort := ⟨_, rfl⟩
  obtain ⟨m1, hm1⟩ : ∃ q, q = P.length := ⟨_, rfl⟩
  obtain ⟨m2, hm2⟩ : ∃ q, q = Q.length := ⟨_, rfl⟩
  obtain ⟨m3, hm3⟩ : ∃ q, q = O.length := ⟨_, rfl⟩
  rw [← hkk] at HKK ⊢
  rw [← hgk] at HKK HKO
  rw [← hG] at HGR
  rw [← hm1, ← hm2, ← hm3] at HGR
  rw [← hq, ← hto, ← htn, ← hts] at HIT
  rw [← hto, ← hts] at HKO
  rw [← hq, ← hto, ← htn, ← hts, ← hm1, ← hm2, ← hm3]
  clear h ht hB hsz hz hkk hgk hq hto htn hts hm1 hm2 hm3 hG hGO
  obtain ⟨W, hW⟩ : ∃ W, W = (w.alloc (.cells #[.slice A1 m1 c1, .slice A2 m2 c2, .slice A3 m3 c3] 30)).alloc (.cells #[.int .i64 to, .string (bstr tn), .int .i64 ts, .slice B q cb] 33) := ⟨_, rfl⟩
  have hb0 : Below w.heap.size w W := by
    rw [hW]
    repeat (first | exact Below.refl _ _ | refine Below.alloc ?_ (by first | (simp; done) | (simp; omega)) _)
  have hX0 : Box34 w.heap.size (w.heap.size + 1) (.slice A1 m1 c1) (.slice A2 m2 c2) (.slice A3 m3 c3) (.int .i64 to) (.string (bstr tn)) (.int .i64 ts) (.slice B q cb) W := by
    rw [hW]
    exact ⟨box3 (heap2a _ _ _), box4 (heap_at _ _ _ (by simp))⟩
  have HX := Lib.hid hX0
  have HB0 := Lib.hid hb0
  clear hb0 hX0
  go_enter Tryz.func28, Tryz.ntmps28
  go_wp2_with fail
  rw [← hW]
  clear hW
  refine (HGR.out _ HB0.out).mono ?_
  rintro e w1 ⟨mv, A, c, rfl, hM, _, hb1⟩
  obtain ⟨mm, rfl⟩ := mapU_shape hM.m
  have HM := Lib.hid hM
  have HB1 := Lib.hid (HB0.out.trans (hb1.mono HB0.out.size))
  have HX1 := Lib.hid (Box34.below HX.out hb1)
  have hs1 : w.heap.size + 1 < w1.heap.size := by
    have q := block_lt_of_cell HX1.out.2.1
    simpa using q
  clear hb1 hM
  obtain ⟨⟨x0, x1, x2⟩, y0, y1, y2, y3⟩ := HX1.out
  go_wp2_with fail
  obtain ⟨W2, hW2⟩ : ∃ W2, W2 = w1.alloc (.cells #[.map mm, .slice A G.E.length c] 84) := ⟨_, rfl⟩
  have hb2 : Below w1.heap.size w1 W2 := by rw [hW2]; exact (Below.refl _ _).alloc (Nat.le_refl _) _
  have hY2 : W2.heap[w1.heap.size]? = some (.cells #[.map mm, .slice A G.E.length c] 84 (0, 0)) := by rw [hW2]; exact heap_at _ _ _ rfl
  have hz2 : W2.heap.size = w1.heap.size + 1 := by rw [hW2]; simp
  rw [← hW2]
  have HB2 := Lib.hid (HB1.out.trans (hb2.mono HB1.out.size))
  have HX2 := Lib.hid (Box34.below HX1.out hb2)
  have HM2 := Lib.hid (HM.out.below hb2)
  have HY2 := Lib.hid hY2
  have HZ2 := Lib.hid hz2
  clear hW2 hb2 hY2 hz2 x0 x1 x2 y0 y1 y2 y3
  refine (HIT.out W2 mm A c HB2.out HM2.out).mono ?_
  rintro e w3 ⟨rfl, hb3⟩
  have HB3 := Lib.hid (HB2.out.trans (hb3.mono HB2.out.size))
  have HX3 := Lib.hid (Box34.below HX2.out hb3)
  have HM3 := Lib.hid (HM2.out.below hb3)
  have hy3 := (hb3.block _ (by have := HZ2.out; omega)).trans HY2.out
  have k0 := cell_of_row _ _ 0 _ _ _ hy3
  have k1 := cell_of_row _ _ 1 _ _ _ hy3
  clear hb3 hy3
  cases z with
  | false =>
    go_wp2
    go_ret
    exact ⟨rfl, HB3.out⟩
  | true =>
    obtain ⟨g1, g2, g3⟩ := HKK.out (by trivial)
    have HG2 := Lib.hid g2
    have HEL := Lib.hid (fun V => nels_any gk g3 V)
    go_wp2_with fail
    refine (HKO.out w3 mm A c _ _ HM3.out HX3.out.2.1 HX3.out.2.2.2.1).mono ?_
    rintro e w4 ⟨rfl, hb4⟩
    have HB4 := Lib.hid (HB3.out.trans (hb4.mono HB3.out.size))
    clear hb4 k0 k1
    go_wp2_with fail
    refine (HEL.out _).mono ?_
    rintro e w5 ⟨ev, rfl, hown, hb5⟩
    obtain ⟨A4, c4, rfl, hh4⟩ := (Has.of_own hown).shape (n := (els gk).length) (by rw [ivs_len]; simp [nats])
    obtain ⟨g, o, rfl, hg, hcell⟩ := hh4.cellAt g1
    rw [ivs_get _ 0 (by simp [nats]; omega), nats_get, HG2.out, Nat.add_zero] at hcell
    have HB5 := Lib.hid (HB4.out.trans (hb5.mono HB4.out.size))
    have i1 : (0 : Int) < ((els gk).length : Int) := by omega
    clear hown hh4 hb5 g2
    go_wp2
    go_ret
    exact ⟨rfl, HB5.out⟩
end Go.Proofs.YtejmfiocdecigaaGreat.formkd
/-
  THE WALK OF FnExactKindOfTerm.
-/
namespace Go.Proofs.YtejmfiocdecigaaGreat.fnExactKindOfTerm
open Go.ChangeShapes Go.WideShapes Go.ChangeAt Go.RowKit
open mem dec setm sets sortm sortn sortp sorti sorts subs split strl join sortf sortu sortg sigm sigs sigt sigu sige rowl trm trmv terml termb termt termu termx gram gramn gramt grami formk formt formkd

set_option maxHeartbeats 8000000 in
set_option maxRecDepth 100000 in
theorem go {n : Nat} (P : List (List UInt8)) (Q : List (Int × Int)) (O : List OpM) (va vb vc : Value) (t : TermM) (ve : Value) (w : World) (h : HasG w va vb vc P Q O) (ht : HasTs n 0 w ve t.args) (hB : Bnd t) :
    Calls Tryz.prog 6 #[.agg #[va, vb, vc], aggT t ve] w fun e w' => e = .returned (.bool true) ∧ Below w.heap.size w w' := by
  have HSZ := Lib.hid (fun W (hW : Below w.heap.size w W) => szSignature_any P Q O va vb vc W (h.below (Nat.le_refl _) hW))
  have HSB := Lib.hid (fun W (hW : Below w.heap.size w W) r (h0 : 0 ≤ r) (h1 : r ≤ 1048576) => szTerm_any t.op t.name t.sort t.args ve W hB.1 (ht.below (Nat.le_refl _) hW) r h0 h1)
  have HTO := Lib.hid (fun W (hW : Below w.heap.size w W) (hs : (Small P ∧ Q.length ≤ 1048576) ∧ SmO O) => toSignature_any P Q O hs va vb vc W (h.below (Nat.le_refl _) hW))
  have HTT := Lib.hid (fun W (hW : Below w.heap.size w W) (hs : sizes t.args ≤ 1048576) => toTerm_any t.op t.name t.sort t.args hs ve W (ht.below (Nat.le_refl _) hW))
  obtain ⟨z, hz⟩ : ∃ z : Bool, z = true ↔ STerm P Q O t := by
    by_cases hq : STerm P Q O t
    · exact ⟨true, fun _ => hq, fun _ => rfl⟩
    · exact ⟨false, fun e => absurd e (by simp), fun e => absurd e hq⟩
  obtain ⟨kz, hkz⟩ : ∃ k : Int, k = (if z = true then ((κK P.length Q (srtT O t) : Nat) : Int) else -1) := ⟨_, rfl⟩
  have HSP : Hid (∀ v1 v2 v3 v4 W lo, HasG W v1 v2 v3 P Q O → HasTs (n + 1) lo W v4 t.args → sizes t.args ≤ 1048576 → Calls Tryz.prog 27 #[.agg #[v1, v2, v3], aggT t v4] W fun e w' => e = .returned (.int .i64 kz) ∧ Below W.heap.size W w') := Lib.hid (fun v1 v2 v3 v4 W lo hG hT hs => by
    rw [hkz]; exact sKindOf_any P Q O v1 v2 v3 t v4 W hG hT hB hs z hz)
  have HIM : Hid (∀ v1 v2 v3 v4 W lo, HasG W v1 v2 v3 P Q O → HasTs (n + 1) lo W v4 t.args → sizes t.args ≤ 1048576 → Calls Tryz.prog 28 #[.agg #[v1, v2, v3], aggT t v4] W fun e w' => e = .returned (.int .i64 kz) ∧ Below W.heap.size W w') := Lib.hid (fun v1 v2 v3 v4 W lo hG hT hs => by
    rw [hkz]; exact iKindOf_any P Q O v1 v2 v3 t v4 W hG hT hB hs z hz)
  have HEA := Lib.hid (fun v1 v2 v3 u1 u2 u3 W (h1 : HasG W v1 v2 v3 P Q O) (h2 : HasG W u1 u2 u3 P Q O) => eqSignature_same P Q O v1 v2 v3 u1 u2 u3 W h1 h2)
  have HEB := Lib.hid (fun v1 v2 W lo lo' (hW : HasTs (n + 1) lo W v1 t.args) (hW' : HasTs (n + 1) lo' W v2 t.args) => eqTerm_any t.op t.name t.sort t.args v1 v2 W hW hW')
  obtain ⟨B, cb, rfl, _⟩ := HasR.shape ht rfl
  obtain ⟨A1, c1, A2, c2, A3, c3, rfl, rfl, rfl, _⟩ := h.shape
  have HSH : Hid (∀ {W v1 v2 v3}, HasG W v1 v2 v3 P Q O → ∃ A1 c1 A2 c2 A3 c3, v1 = .slice A1 P.length c1 ∧ v2 = .slice A2 Q.length c2 ∧ v3 = .slice A3 O.length c3) := Lib.hid (fun h => by
    obtain ⟨A1, c1, A2, c2, A3, c3, e1, e2, e3, _⟩ := h.shape
    exact ⟨A1, c1, A2, c2, A3, c3, e1, e2, e3⟩)
  have HOS : Hid (∀ {W lo v S}, OT 33 (n + 1) lo W v t.args S → ∃ A c, v = .slice A t.args.length c) := Lib.hid (fun h => OT.shape h)
  unfold aggT at HSP HIM ⊢
  obtain ⟨q, hq⟩ : ∃ q, q = t.args.length := ⟨_, rfl⟩
  obtain ⟨to, hto⟩ : ∃ q, q = t.op := ⟨_, rfl⟩
  obtain ⟨tn, htn⟩ : ∃ q, q = t.name := ⟨_, rfl⟩
  obtain ⟨ts, hts⟩ : ∃ q, q = t.sort := ⟨_, rfl⟩
  obtain ⟨m1, hm1⟩ : ∃ q, q = P.length := ⟨_, rfl⟩
  obtain ⟨m2, hm2⟩ : ∃ q, q = Q.length := ⟨_, rfl⟩
  obtain ⟨m3, hm3⟩ : ∃ q, q = O.length := ⟨_, rfl⟩
  rw [← hq] at HSB HTT HOS ⊢
  rw [← hto, ← htn, ← hts] at HSB HTT HSP HIM HEB ⊢
  have HSM0 : Hid (∀ {p1 p2 : Prop}, p1 → p2 → p1 ∧ p2) := Lib.hid (fun a b => ⟨a, b⟩)
  obtain ⟨SmP, hSmP⟩ : ∃ p : Prop, p = ((Small P ∧ Q.length ≤ 1048576) ∧ SmO O) := ⟨_, rfl⟩
  rw [← hSmP] at HTO
  have HSZ' : Hid (∀ W, Below w.heap.size w W → Calls Tryz.prog 20 #[.agg #[.slice A1 m1 c1, .slice A2 m2 c2, .slice A3 m3 c3], .int .i64 1048576] W fun e w' => ∃ r : Int, e = .returned (.int .i64 r) ∧ (0 ≤ r → SmP) ∧ r ≤ 1048576 ∧ Below W.heap.size W w') := Lib.hid (fun W hW => by
    rw [hm1, hm2, hm3]
    refine (HSZ.out W hW).mono ?_
    rintro e w' ⟨r, rfl, hr, hr1, hr2, hb⟩
    exact ⟨r, rfl, fun h => by rw [hSmP]; exact hr h, hr2, hb⟩)
  rw [← hm1, ← hm2, ← hm3] at HTO HSH ⊢
  clear h ht hB hz hkz hq hto htn hts hm1 hm2 hm3 HSZ hSmP HSM0
  obtain ⟨W, hW⟩ : ∃ W, W = (w.alloc (.cells #[.slice A1 m1 c1, .slice A2 m2 c2, .slice A3 m3 c3] 49)).alloc (.cells #[.int .i64 to, .string (bstr tn), .int .i64 ts, .slice B q cb] 52) := ⟨_, rfl⟩
  have hb0 : Below w.heap.size w W := by
    rw [hW]
    repeat (first | exact Below.refl _ _ | refine Below.alloc ?_ (by first | (simp; done) | (simp; omega)) _)
  have hX0 : Box34 w.heap.size (w.heap.size + 1) (.slice A1 m1 c1) (.slice A2 m2 c2) (.slice A3 m3 c3) (.int .i64 to) (.string (bstr tn)) (.int .i64 ts) (.slice B q cb) W := by
    rw [hW]
    exact ⟨box3 (heap2a _ _ _), box4 (termt.heap_at _ _ _ (by simp))⟩
  have HX := Lib.hid hX0
  have HB0 := Lib.hid hb0
  clear hb0 hX0
  go_enter Tryz.func6, Tryz.ntmps6
  go_wp2_with fail
  rw [← hW]
  clear hW
  refine (HSZ'.out _ HB0.out).mono ?_
  rintro e w1 ⟨r, rfl, hr, hr2, hb1⟩
  have HB1 := Lib.hid (HB0.out.trans (hb1.mono HB0.out.size))
  have HX1 := Lib.hid (Box34.below HX.out hb1)
  have HR := Lib.hid hr
  clear hb1 HX HB0 hr
  by_cases hneg : r < 0
  · go_wp2
    go_ret
    exact ⟨rfl, HB1.out⟩
  obtain ⟨⟨x0, x1, x2⟩, y0, y1, y2, y3⟩ := HX1.out
  go_wp2_with fail
  refine (HSB.out _ HB1.out r (by omega) hr2).mono ?_
  rintro e w2 ⟨r', rfl, hr', hr1', hr2', hb2⟩
  have HB2 := Lib.hid (HB1.out.trans (hb2.mono HB1.out.size))
  have HX2 := Lib.hid (Box34.below HX1.out hb2)
  have HR' := Lib.hid hr'
  clear hb2 x0 x1 x2 y0 y1 y2 y3 HX1 HB1 hr'
  by_cases hneg' : r' < 0
  · go_wp2
    go_ret
    exact ⟨rfl, HB2.out⟩
  have HSM := Lib.hid (And.intro (HR.out (by omega)) (show sizes t.args ≤ 1048576 by have := HR'.out (by omega); omega))
  clear HR HR' hr1' hr2' hr2
  have hwz : w.heap.size ≤ w2.heap.size := HB2.out.size
  go_wp2_with fail
  refine wp_region_noPanic ?_
  refine wp_region_held_drew (S := (Box34 w.heap.size (w.heap.size + 1) (.slice A1 m1 c1) (.slice A2 m2 c2) (.slice A3 m3 c3) (.int .i64 to) (.string (bstr tn)) (.int .i64 ts) (.slice B q cb))) (by kernel_rfl) ?_ (fun hHd0 => ?_)
  · exact HX2.out
  refine wpAnyH_take (i := 0) (v := ?_) rfl (by kernel_rfl) (by kernel_rfl) (by kernel_rfl) (fun _ _ _ h => h) (Or.inl ⟨by rfl, ?_⟩) (by with_reducible assumption) ?_
  rotate_left
  · intro w hSw; (try dsimp only at hSw); go_simp <;> with_reducible rfl
  (try simp only [Act.put]); (try simp only [List.setIfInBounds_toArray]); (try simp only [List.set_cons_succ, List.set_cons_zero])
  refine wpAnyH_take (i := 2) (v := ?_) rfl (by kernel_rfl) (by kernel_rfl) (by kernel_rfl) (fun _ _ _ h => h) (Or.inl ⟨by rfl, ?_⟩) (by with_reducible assumption) ?_
  rotate_left
  · intro w hSw; (try dsimp only at hSw); go_simp <;> with_reducible rfl
  (try simp only [Act.put]); (try simp only [List.setIfInBounds_toArray]); (try simp only [List.set_cons_succ, List.set_cons_zero])
  refine wpAnyH_ready (rs := [1]) (by kernel_rfl) (by simp) ?_
  refine AllReadyH.cons (o := _) rfl (fun K hK => ?_) ?_
  · (go_simp; refine (HTO.out w2.drew (HB2.out.drew) HSM.out.1).mono ?_; rintro e w3 ⟨v1, v2, v3, rfl, hG, hb3⟩; obtain ⟨D1, d1, D2, d2, D3, d3, rfl, rfl, rfl⟩ := HSH.out hG; have hX3 := Box34.below (w := w2.drew) (show Box34 w.heap.size (w.heap.size + 1) (.slice A1 m1 c1) (.slice A2 m2 c2) (.slice A3 m3 c3) (.int .i64 to) (.string (bstr tn)) (.int .i64 ts) (.slice B q cb) w2.drew from HX2.out) hb3; have HB3 := Lib.hid ((HB2.out.drew).trans (hb3.mono (HB2.out.drew).size)); have HG3 := Lib.hid hG; clear hG hb3; (try dsimp only))
    refine hK.out _ _ ?_ (fun hHd1 => ?_)
    · (try dsimp only); first | (with_reducible assumption) | (exact hX3) | (exact hX4) | (exact hX5)
    clear hK K hHd0
    (try simp only [Act.put]); (try simp only [List.setIfInBounds_toArray]); (try simp only [List.set_cons_succ, List.set_cons_zero])
    refine wpAnyH_ready (rs := [3]) (by kernel_rfl) (by simp) ?_
    refine AllReadyH.cons (o := _) rfl (fun K hK => ?_) ?_
    · (go_simp; refine (HTT.out w3 (HB3.out) HSM.out.2).mono ?_; rintro e w4 ⟨v4, S4, rfl, ho, hb4⟩; obtain ⟨E1, e1, rfl⟩ := HOS.out ho; have hX4 := Box34.below (w := w3) hX3 hb4; have HB4 := Lib.hid ((HB3.out).trans (hb4.mono (HB3.out).size)); have HG4b := Lib.hid (HG3.out.below (Nat.le_refl _) hb4); have HO4 := Lib.hid ho; clear ho hb4; (try dsimp only))
      refine hK.out _ _ ?_ (fun hHd2 => ?_)
      · (try dsimp only); first | (with_reducible assumption) | (exact hX3) | (exact hX4) | (exact hX5)
      clear hK K hHd1
      (try simp only [Act.put]); (try simp only [List.setIfInBounds_toArray]); (try simp only [List.set_cons_succ, List.set_cons_zero])
      refine wpAnyH_ready (rs := [4]) (by kernel_rfl) (by simp) ?_
      refine AllReadyH.cons (o := _) rfl (fun K hK => ?_) ?_
      · (go_simp; refine (HSP.out _ _ _ _ w4 _ HG4b.out HO4.out.has HSM.out.2).mono ?_; rintro e w5 ⟨rfl, hb5⟩; have hX5 := Box34.below hX4 hb5; have HB5 := Lib.hid (HB4.out.trans (hb5.mono HB4.out.size)); clear hb5; (try dsimp only))
        refine hK.out _ _ ?_ (fun hHd3 => ?_)
        · (try dsimp only); first | (with_reducible assumption) | (exact hX3) | (exact hX4) | (exact hX5)
        clear hK K hHd2
        (try simp only [Act.put]); (try simp only [List.setIfInBounds_toArray]); (try simp only [List.set_cons_succ, List.set_cons_zero])
        refine wpAnyH_ready (rs := [5]) (by kernel_rfl) (by simp) ?_
        refine AllReadyH.cons (o := _) rfl (fun K hK => ?_) ?_
        · go_simp
          refine hK.out _ _ ?_ (fun hHd4 => ?_)
          · (try dsimp only); first | (with_reducible assumption) | (exact hX3) | (exact hX4) | (exact hX5)
          clear hK K hHd3
          (try simp only [Act.put]); (try simp only [List.setIfInBounds_toArray]); (try simp only [List.set_cons_succ, List.set_cons_zero])
          refine wpAnyH_done (by kernel_rfl) ?_ _
          refine NoPanic.normal ?_
          have HX5 := Lib.hid hX5
          clear hX5
          obtain ⟨⟨x0, x1, x2⟩, y0, y1, y2, y3⟩ := HX5.out
          go_wp2_with fail
          refine (HTO.out w5 HB5.out HSM.out.1).mono ?_
          rintro e w6 ⟨v5, v6, v7, rfl, hG, hb6⟩
          obtain ⟨F1, f1, F2, f2, F3, f3, rfl, rfl, rfl⟩ := HSH.out hG
          have HG6 := Lib.hid hG
          have HB6 := Lib.hid (HB5.out.trans (hb6.mono HB5.out.size))
          have HX6 := Lib.hid (Box34.below HX5.out hb6)
          have hs6 : w.heap.size + 1 < w6.heap.size := by
            have q := block_lt_of_cell HX6.out.2.1
            simpa using q
          have hs6' : w.heap.size < w6.heap.size := by omega
          clear hG hb6 x0 x1 x2 y0 y1 y2 y3
          obtain ⟨⟨x0, x1, x2⟩, y0, y1, y2, y3⟩ := HX6.out
          go_wp2_with fail
          obtain ⟨W7, hW7⟩ : ∃ W7, W7 = w6.alloc (.cells #[.slice F1 m1 f1, .slice F2 m2 f2, .slice F3 m3 f3] 30) := ⟨_, rfl⟩
          have hb67 : Below w6.heap.size w6 W7 := by rw [hW7]; exact (Below.refl _ _).alloc (Nat.le_refl _) _
          have hY7 : W7.heap[w6.heap.size]? = some (.cells #[.slice F1 m1 f1, .slice F2 m2 f2, .slice F3 m3 f3] 30 (0, 0)) := by rw [hW7]; exact termt.heap_at _ _ _ rfl
          have hz7 : W7.heap.size = w6.heap.size + 1 := by rw [hW7]; simp
          rw [← hW7]
          have HB7 := Lib.hid (HB6.out.trans (hb67.mono HB6.out.size))
          have HX7 := Lib.hid (Box34.below HX6.out hb67)
          have HG7 := Lib.hid (HG6.out.below (Nat.le_refl _) hb67)
          have HY7 := Lib.hid hY7
          have HZ7 := Lib.hid hz7
          clear hW7 hb67 hY7 hz7 x0 x1 x2 y0 y1 y2 y3
          refine (HTT.out W7 HB7.out HSM.out.2).mono ?_
          rintro e w8 ⟨v8, S8, rfl, ho, hb8⟩
          obtain ⟨G1, g1, rfl⟩ := HOS.out ho
          have HO8 := Lib.hid ho
          have HB8 := Lib.hid (HB7.out.trans (hb8.mono HB7.out.size))
          have HX8 := Lib.hid (Box34.below HX7.out hb8)
          have HG8 := Lib.hid (HG7.out.below (Nat.le_refl _) hb8)
          have hs8 : w6.heap.size < w8.heap.size := by have := hb8.size; have := HZ7.out; omega
          have HY8 : Hid (w8.heap[w6.heap.size]? = some (.cells #[.slice F1 m1 f1, .slice F2 m2 f2, .slice F3 m3 f3] 30 (0, 0))) := Lib.hid ((hb8.block _ (by have := HZ7.out; omega)).trans HY7.out)
          obtain ⟨k0, k1, k2⟩ := box3 HY8.out
          clear ho hb8
          go_wp2_with fail
          obtain ⟨W9, hW9⟩ : ∃ W9, W9 = w8.alloc (.cells #[.int .i64 to, .string (bstr tn), .int .i64 ts, .slice G1 q g1] 33) := ⟨_, rfl⟩
          have hb89 : Below w8.heap.size w8 W9 := by rw [hW9]; exact (Below.refl _ _).alloc (Nat.le_refl _) _
          have hY9 : Box34 w6.heap.size w8.heap.size (.slice F1 m1 f1) (.slice F2 m2 f2) (.slice F3 m3 f3) (.int .i64 to) (.string (bstr tn)) (.int .i64 ts) (.slice G1 q g1) W9 := ⟨box3 ((hb89.block _ hs8).trans HY8.out), box4 (by rw [hW9]; exact termt.heap_at _ _ _ rfl)⟩
          rw [← hW9]
          have HB9 := Lib.hid (HB8.out.trans (hb89.mono HB8.out.size))
          have HX9 := Lib.hid (Box34.below HX8.out hb89)
          have HG9 := Lib.hid (HG8.out.below (Nat.le_refl _) hb89)
          have HO9 := Lib.hid (HO8.out.below hb89)
          have HY9 := Lib.hid hY9
          clear hW9 hb89 hY9 k0 k1 k2
          refine (HIM.out _ _ _ _ W9 _ HG9.out HO9.out.has HSM.out.2).mono ?_
          rintro e w10 ⟨rfl, hb10⟩
          have HB10 := Lib.hid (HB9.out.trans (hb10.mono HB9.out.size))
          have HX10 := Lib.hid (Box34.below HX9.out hb10)
          have HY10 := Lib.hid (Box34.below HY9.out hb10)
          have HG10 := Lib.hid (HG9.out.below (Nat.le_refl _) hb10)
          have HO10 := Lib.hid (HO9.out.below hb10)
          clear hb10
          go_wp2_with fail
          refine wp_region_noPanic ?_
          refine wp_region_held_drew (S := (fun w' => Box34 w6.heap.size w8.heap.size (.slice F1 m1 f1) (.slice F2 m2 f2) (.slice F3 m3 f3) (.int .i64 to) (.string (bstr tn)) (.int .i64 ts) (.slice G1 q g1) w' ∧ Box34 w.heap.size (w.heap.size + 1) (.slice A1 m1 c1) (.slice A2 m2 c2) (.slice A3 m3 c3) (.int .i64 to) (.string (bstr tn)) (.int .i64 ts) (.slice B q cb) w')) (by kernel_rfl) ?_ (fun hHd0 => ?_)
          · exact ⟨HY10.out, HX10.out⟩
          refine wpAnyH_take (i := 0) (v := ?_) rfl (by kernel_rfl) (by kernel_rfl) (by kernel_rfl) (fun _ _ _ h => h) (Or.inl ⟨by rfl, ?_⟩) (by with_reducible assumption) ?_
          rotate_left
          · intro w hSw; (try dsimp only at hSw); go_simp <;> with_reducible rfl
          (try simp only [Act.put]); (try simp only [List.setIfInBounds_toArray]); (try simp only [List.set_cons_succ, List.set_cons_zero])
          refine wpAnyH_take (i := 1) (v := ?_) rfl (by kernel_rfl) (by kernel_rfl) (by kernel_rfl) (fun _ _ _ h => h) (Or.inl ⟨by rfl, ?_⟩) (by with_reducible assumption) ?_
          rotate_left
          · intro w hSw; (try dsimp only at hSw); go_simp <;> with_reducible rfl
          (try simp only [Act.put]); (try simp only [List.setIfInBounds_toArray]); (try simp only [List.set_cons_succ, List.set_cons_zero])
          refine wpAnyH_ready (rs := [2]) (by kernel_rfl) (by simp) ?_
          refine AllReadyH.cons (o := _) rfl (fun K hK => ?_) ?_
          · (go_simp; refine (HTO.out w10.drew HB10.out.drew HSM.out.1).mono ?_; rintro e w11 ⟨v11, v12, v13, rfl, hG11, hb11⟩; obtain ⟨J1, j1, J2, j2, J3, j3, rfl, rfl, rfl⟩ := HSH.out hG11; have hX11 := And.intro (Box34.below (w := w10.drew) HY10.out hb11) (Box34.below (w := w10.drew) HX10.out hb11); have HB11 := Lib.hid (HB10.out.drew.trans (hb11.mono HB10.out.size)); (try dsimp only))
            refine hK.out _ _ ?_ (fun hHd1 => ?_)
            · (try dsimp only); first | (with_reducible assumption) | (exact hX11) | (exact hX12)
            clear hK K hHd0
            (try simp only [Act.put]); (try simp only [List.setIfInBounds_toArray]); (try simp only [List.set_cons_succ, List.set_cons_zero])
            refine wpAnyH_ready (rs := [3]) (by kernel_rfl) (by simp) ?_
            refine AllReadyH.cons (o := _) rfl (fun K hK => ?_) ?_
            · (go_simp; refine (HEA.out _ _ _ _ _ _ w11 ((HG10.out.below (Nat.le_refl _) (Below.refl _ _).drew).below (Nat.le_refl _) hb11) hG11).mono ?_; rintro e w12 ⟨rfl, hb12⟩; have hX12 := And.intro (Box34.below hX11.1 hb12) (Box34.below hX11.2 hb12); have HB12 := Lib.hid (HB11.out.trans (hb12.mono HB11.out.size)); have hb1112 := hb11.trans (hb12.mono hb11.size); (try dsimp only))
              refine hK.out _ _ ?_ (fun hHd2 => ?_)
              · (try dsimp only); first | (with_reducible assumption) | (exact hX11) | (exact hX12)
              clear hK K hHd1
              (try simp only [Act.put]); (try simp only [List.setIfInBounds_toArray]); (try simp only [List.set_cons_succ, List.set_cons_zero])
              refine wpAnyH_ready (rs := [4]) (by kernel_rfl) (by simp) ?_
              refine AllReadyH.cons (o := _) rfl (fun K hK => ?_) ?_
              · go_simp
                refine hK.out _ _ ?_ (fun hHd3 => ?_)
                · (try dsimp only); first | (with_reducible assumption) | (exact hX11) | (exact hX12)
                clear hK K hHd2
                (try simp only [Act.put]); (try simp only [List.setIfInBounds_toArray]); (try simp only [List.set_cons_succ, List.set_cons_zero])
                refine wpAnyH_done (by kernel_rfl) ?_ _
                refine NoPanic.normal ?_
                have HX12 := Lib.hid hX12.2
                have HY12 := Lib.hid hX12.1
                clear hX12 hX11
                go_wp2_with fail
                refine wp_region_noPanic ?_
                refine wp_region_held_drew (S := (fun w' => Box34 w6.heap.size w8.heap.size (.slice F1 m1 f1) (.slice F2 m2 f2) (.slice F3 m3 f3) (.int .i64 to) (.string (bstr tn)) (.int .i64 ts) (.slice G1 q g1) w' ∧ Box34 w.heap.size (w.heap.size + 1) (.slice A1 m1 c1) (.slice A2 m2 c2) (.slice A3 m3 c3) (.int .i64 to) (.string (bstr tn)) (.int .i64 ts) (.slice B q cb) w')) (by kernel_rfl) ?_ (fun hHd0 => ?_)
                · exact ⟨HY12.out, HX12.out⟩
                refine wpAnyH_take (i := 0) (v := ?_) rfl (by kernel_rfl) (by kernel_rfl) (by kernel_rfl) (fun _ _ _ h => h) (Or.inl ⟨by rfl, ?_⟩) (by with_reducible assumption) ?_
                rotate_left
                · intro w hSw; (try dsimp only at hSw); go_simp <;> with_reducible rfl
                (try simp only [Act.put]); (try simp only [List.setIfInBounds_toArray]); (try simp only [List.set_cons_succ, List.set_cons_zero])
                refine wpAnyH_take (i := 1) (v := ?_) rfl (by kernel_rfl) (by kernel_rfl) (by kernel_rfl) (fun _ _ _ h => h) (Or.inl ⟨by rfl, ?_⟩) (by with_reducible assumption) ?_
                rotate_left
                · intro w hSw; (try dsimp only at hSw); go_simp <;> with_reducible rfl
                (try simp only [Act.put]); (try simp only [List.setIfInBounds_toArray]); (try simp only [List.set_cons_succ, List.set_cons_zero])
                refine wpAnyH_ready (rs := [2]) (by kernel_rfl) (by simp) ?_
                refine AllReadyH.cons (o := _) rfl (fun K hK => ?_) ?_
                · (go_simp; refine (HTT.out w12.drew HB12.out.drew HSM.out.2).mono ?_; rintro e w13 ⟨v13, S13, rfl, ho13, hb13⟩; obtain ⟨J1, j1, rfl⟩ := HOS.out ho13; have hX13 := And.intro (Box34.below (w := w12.drew) HY12.out hb13) (Box34.below (w := w12.drew) HX12.out hb13); have HB13 := Lib.hid (HB12.out.drew.trans (hb13.mono HB12.out.size)); (try dsimp only))
                  refine hK.out _ _ ?_ (fun hHd1 => ?_)
                  · (try dsimp only); first | (with_reducible assumption) | (exact hX13) | (exact hX14)
                  clear hK K hHd0
                  (try simp only [Act.put]); (try simp only [List.setIfInBounds_toArray]); (try simp only [List.set_cons_succ, List.set_cons_zero])
                  refine wpAnyH_ready (rs := [3]) (by kernel_rfl) (by simp) ?_
                  refine AllReadyH.cons (o := _) rfl (fun K hK => ?_) ?_
                  · (go_simp; refine (HEB.out _ _ w13 _ _ (((HO10.out.below (Below.refl _ _).drew).below (hb1112.trans (Below.refl _ _).drew)).below hb13).has ho13.has).mono ?_; rintro e w14 ⟨rfl, hb14⟩; have hX14 := And.intro (Box34.below hX13.1 hb14) (Box34.below hX13.2 hb14); have HB14 := Lib.hid (HB13.out.trans (hb14.mono HB13.out.size)); have hb1314 := hb13.trans (hb14.mono hb13.size); (try dsimp only))
                    refine hK.out _ _ ?_ (fun hHd2 => ?_)
                    · (try dsimp only); first | (with_reducible assumption) | (exact hX13) | (exact hX14)
                    clear hK K hHd1
                    (try simp only [Act.put]); (try simp only [List.setIfInBounds_toArray]); (try simp only [List.set_cons_succ, List.set_cons_zero])
                    refine wpAnyH_ready (rs := [4]) (by kernel_rfl) (by simp) ?_
                    refine AllReadyH.cons (o := _) rfl (fun K hK => ?_) ?_
                    · go_simp
                      refine hK.out _ _ ?_ (fun hHd3 => ?_)
                      · (try dsimp only); first | (with_reducible assumption) | (exact hX13) | (exact hX14)
                      clear hK K hHd2
                      (try simp only [Act.put]); (try simp only [List.setIfInBounds_toArray]); (try simp only [List.set_cons_succ, List.set_cons_zero])
                      refine wpAnyH_done (by kernel_rfl) ?_ _
                      refine NoPanic.normal ?_
                      go_wp2
                      go_ret
                      exact ⟨rfl, HB14.out⟩
                    exact AllReadyH.nil
                  exact AllReadyH.nil
                exact AllReadyH.nil
              exact AllReadyH.nil
            exact AllReadyH.nil
          exact AllReadyH.nil
        exact AllReadyH.nil
      exact AllReadyH.nil
    exact AllReadyH.nil
  exact AllReadyH.nil
set_option maxRecDepth 100000 in
theorem walk {H : Type} {enc : TypeId × Value → H} {W : World} {base : Nat} {v v' : Value} {d d' : DataW H} {p p' : List MemPlace}
    (hval : Value.okWide Tryz.prog W .any base 49 v) (hd : DataW.Trod enc Tryz.prog W 0 (fun _ => true) true 49 v d p) (_hlt : ∀ x ∈ p, x.block < W.heap.size)
    (hval' : Value.okWide Tryz.prog W .any base 52 v') (hd' : DataW.Trod enc Tryz.prog W 0 (fun _ => true) true 52 v' d' p') (_hlt' : ∀ x ∈ p', x.block < W.heap.size) :
    Calls Tryz.prog 6 #[v, v'] W fun e w' => e = .returned (.bool true) ∧ Below W.heap.size W w' := by
  obtain ⟨va, vb, vc, P, Q, O, rfl, h⟩ := sigo.has_sig hval hd
  obtain ⟨n, t, ve, rfl, ht, hB⟩ := termop.has_term hval' hd'
  exact go P Q O va vb vc t ve W h ht hB
end Go.Proofs.YtejmfiocdecigaaGreat.fnExactKindOfTerm
