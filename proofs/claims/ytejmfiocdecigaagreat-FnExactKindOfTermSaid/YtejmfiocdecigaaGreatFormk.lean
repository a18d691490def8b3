/-
  THE MODEL's KINDS OF TERMS: l6Kind, l6Unit.
-/
import Derived.Test.YtejmfiocdecigaaGreatFormnd
namespace Go.Proofs.YtejmfiocdecigaaGreat.formk
open Go.ChangeShapes Go.WideShapes Go.ChangeAt Go.RowKit
open mem dec setm sets sortm sortn sortp sorti sortu sortg sigm sigs sigt sigl rowl trm trmv terml termb termt termx termz termro termsd termvr termev frm termlm sigi sigj sigk gram gramo graml gramk gramc gramn gramt grami formnd

theorem sig_sorts {P : List (List UInt8)} {Q : List (Int × Int)} {O : List OpM} (h : sigOk P Q O = true) : 1 ≤ P.length ∧ P.length ≤ 8 ∧ PIn P.length Q ∧ Q.length ≤ 32 ∧ ∀ p ∈ Q, p.1 ≠ p.2 := by
  have hS := (sigOk_parts h).1
  obtain ⟨p1, p2, p3, p4, p5⟩ := okS_parts hS
  exact ⟨p1, p2, p3, by omega, ok_ne hS⟩
/-- the sort that says a term's kind -/
def srtT (O : List OpM) (t : TermM) : Int := if t.op = -1 then t.sort else rs (O.getD t.op.toNat default)
/-- its parts are in range -/
def RangeT (P : List (List UInt8)) (O : List OpM) (t : TermM) : Prop := if t.op = -1 then 0 ≤ t.sort ∧ t.sort < P.length else 0 ≤ t.op ∧ t.op < O.length
set_option maxRecDepth 50000 in
set_option maxHeartbeats 8000000 in
/-- spec.l6Kind -/
theorem sKind_any {N lo : Nat} (P : List (List UInt8)) (Q : List (Int × Int)) (O : List OpM) (hok : sigOk P Q O = true) (va vb vc : Value) (t : TermM) (ve : Value) (w : World) (h : HasG w va vb vc P Q O) (ht : HasTs N lo w ve t.args) (hR : RangeT P O t) :
    Calls Tryz.prog 64 #[.agg #[va, vb, vc], aggT t ve] w fun e w' => e = .returned (.int .i64 ((κK P.length Q (srtT O t) : Nat) : Int)) ∧ Below w.heap.size w w' := by
  obtain ⟨p1, p2, p3, p4, p5⟩ := sig_sorts hok
  obtain ⟨_, h14, _, hd, _⟩ := sigOk_parts hok
  have hKl : (kin P.length (prs Q)).length = P.length := kin_len _ _
  obtain ⟨B, cb, rfl, _⟩ := HasR.shape ht rfl
  have HKI := Lib.hid (fun W (hW : Below w.heap.size w W) => l3Kinds_any P Q p1 p2 p4 p3 p5 va vb W (h.below (Nat.le_refl _) hW).s)
  obtain ⟨A1, c1, A2, c2, A3, c3, rfl, rfl, rfl, _, _, _, h'⟩ := h.shape
  unfold aggT
  unfold RangeT at hR
  unfold srtT
  obtain ⟨q, hq⟩ : ∃ q, q = t.args.length := ⟨_, rfl⟩
  obtain ⟨to, hto⟩ : ∃ q, q = t.op := ⟨_, rfl⟩
  obtain ⟨tn, htn⟩ : ∃ q, q = t.name := ⟨_, rfl⟩
  obtain ⟨ts, hts⟩ : ∃ q, q = t.sort := ⟨_, rfl⟩
  obtain ⟨n, hn⟩ : ∃ n, n = P.length := ⟨_, rfl⟩
  obtain ⟨m2, hm2⟩ : ∃ q, q = Q.length := ⟨_, rfl⟩
  obtain ⟨m3, hm3⟩ : ∃ q, q = O.length := ⟨_, rfl⟩
  rw [← hn] at hKl
  rw [← hto, ← hts, ← hn, ← hm3] at hR
  rw [← hq, ← hto, ← htn, ← hts, ← hn, ← hm2, ← hm3]
  rw [← hn, ← hm2] at HKI
  obtain ⟨K, hK⟩ : ∃ K, K = kin n (prs Q) := ⟨_, rfl⟩
  have hκ : ∀ x, κK n Q x = K.getD x.toNat 0 := fun x => by rw [κK, hK]
  rw [← hK] at HKI hKl
  have HO : Hid (HasO 0 w (.slice A3 m3 c3) O) := Lib.hid (by rw [hm3]; exact h'.o)
  have HD : Hid (∀ k, k < m3 → okD n (hd0 (O.getD k default).decls) = true ∧ 1 ≤ (O.getD k default).decls.length) := Lib.hid (fun k hk => by
    have h1 := declsOk_parts (hd (O.getD k default) (by rw [List.getD_eq_getElem?_getD, List.getElem?_eq_getElem (by omega)]; exact List.getElem_mem _))
    rw [hn]
    exact ⟨h1.2.2.2, h1.1⟩)
  have HKP := Lib.hid hκ
  clear h h' ht hq hto htn hts hm2 hm3 hok hd hK hκ p3 p4 p5 hn p1 p2
  obtain ⟨W, hW⟩ : ∃ W, W = (w.alloc (.cells #[.slice A1 n c1, .slice A2 m2 c2, .slice A3 m3 c3] 30)).alloc (.cells #[.int .i64 to, .string (bstr tn), .int .i64 ts, .slice B q cb] 33) := ⟨_, rfl⟩
  have hb0 : Below w.heap.size w W := by
    rw [hW]
    repeat (first | exact Below.refl _ _ | refine Below.alloc ?_ (by first | (simp; done) | (simp; omega)) _)
  have hX : Box34 w.heap.size (w.heap.size + 1) (.slice A1 n c1) (.slice A2 m2 c2) (.slice A3 m3 c3) (.int .i64 to) (.string (bstr tn)) (.int .i64 ts) (.slice B q cb) W := by
    rw [hW]
    exact ⟨box3 (heap2a _ _ _), box4 (heap_at _ _ _ (by simp))⟩
  have HX := Lib.hid hX
  obtain ⟨⟨x0, x1, x2⟩, y0, y1, y2, y3⟩ := hX
  have HB0 := Lib.hid hb0
  clear hb0
  by_cases hv : to = -1
  · rw [if_pos hv] at hR ⊢
    obtain ⟨z, rfl⟩ : ∃ z : Nat, ts = (z : Int) := ⟨ts.toNat, by omega⟩
    have HZ : Hid (κK n Q (z : Int) = K.getD z 0) := Lib.hid (by rw [HKP.out, Int.toNat_natCast])
    subst hv
    go_enter Tryz.func64, Tryz.ntmps64
    go_wp2_with fail
    rw [← hW]
    clear hW
    refine (HKI.out W HB0.out).mono ?_
    rintro e w2 ⟨kv, rfl, hkv, hb2⟩
    obtain ⟨KA, kc, rfl, hkh⟩ := (Has.of_own hkv).shape (n := n) (by rw [ivs_len, nats_len]; exact hKl)
    have hX2 := Box34.below HX.out hb2
    have HB2 := Lib.hid (HB0.out.trans (hb2.mono HB0.out.size))
    clear x0 x1 x2 y0 y1 y2 y3
    obtain ⟨⟨x0, x1, x2⟩, y0, y1, y2, y3⟩ := hX2
    obtain ⟨gk, ok, rfl, hgk, hk0⟩ := hkh.cellAt (j := z) (by omega)
    rw [ivs_get _ z (by rw [nats_len]; omega), nats_get] at hk0
    have i1 : (0 : Int) ≤ (z : Int) := by omega
    have i2 : (z : Int) < (n : Int) := by omega
    clear hkv hb2 hkh
    go_wp2
    go_ret
    exact ⟨ret_int (by first | (rw [HZ.out, List.getD_eq_getElem?_getD]; done) | (rw [HZ.out, List.getD_eq_getElem?_getD, List.getElem?_eq_getElem (by omega)]; rfl)), HB2.out⟩
  · rw [if_neg hv] at hR ⊢
    obtain ⟨k, rfl⟩ : ∃ k : Nat, to = (k : Int) := ⟨to.toNat, by omega⟩
    have hk3 : k < m3 := by omega
    obtain ⟨g, o, A4, c4, hA, _, hg, _, hc1, _, _, _, hh, _, _⟩ := op_at HO.out hk3
    obtain ⟨hD1, hD2⟩ := HD.out k hk3
    obtain ⟨gd, od, A5, c5, hA4, _, hgd, _, d1, _, _, _⟩ := decl_at hh (j := 0) (by omega)
    rw [Int.toNat_natCast]
    obtain ⟨z, hz⟩ : ∃ z : Nat, rs (O.getD k default) = (z : Int) := ⟨(rs (O.getD k default)).toNat, by
      have := (okD_parts hD1).2.1
      simp only [inN, decide_eq_true_eq] at this
      unfold rs
      omega⟩
    have hzn : z < n := by
      have := (okD_parts hD1).2.1
      simp only [inN, decide_eq_true_eq] at this
      unfold rs at hz
      omega
    have hz' : ((O.getD k default).decls.getD 0 default).2 = (z : Int) := hz
    rw [hz, show od + 0 * 2 + 1 = od + 1 by omega] at *
    rw [hz'] at d1
    obtain ⟨dl, hdl⟩ : ∃ q, q = (O.getD k default).decls.length := ⟨_, rfl⟩
    rw [← hdl] at hc1 hD2
    have HZ : Hid (κK n Q (z : Int) = K.getD z 0) := Lib.hid (by rw [HKP.out, Int.toNat_natCast])
    have i3 : (0 : Int) ≤ (k : Int) := by omega
    have i4 : (k : Int) < (m3 : Int) := by omega
    have i5 : (0 : Int) < (dl : Int) := by omega
    have v1 : ((k : Int) == -1) = false := by first | (simp; done) | (simp; omega)
    have HC : Hid (w.cell? ⟨g, o + k * 5 + 1, none⟩ = some (.slice A4 dl c4) ∧ w.cell? ⟨gd, od + 1, none⟩ = some (.int .i64 z)) := Lib.hid ⟨hc1, d1⟩
    subst hA
    subst hA4
    clear hc1 d1 hh hD1 hz hz' hdl HD HO hR
    go_enter Tryz.func64, Tryz.ntmps64
    go_wp2_with fail
    rw [← hW]
    clear hW
    refine (HKI.out W HB0.out).mono ?_
    rintro e w2 ⟨kv, rfl, hkv, hb2⟩
    obtain ⟨KA, kc, rfl, hkh⟩ := (Has.of_own hkv).shape (n := n) (by rw [ivs_len, nats_len]; exact hKl)
    have hX2 := Box34.below HX.out hb2
    have hbw2 := HB0.out.trans (hb2.mono HB0.out.size)
    have hc1 := (hbw2.cell (p := ⟨g, o + k * 5 + 1, none⟩) hg).trans HC.out.1
    have d1 := (hbw2.cell (p := ⟨gd, od + 1, none⟩) hgd).trans HC.out.2
    have HB2 := Lib.hid hbw2
    clear x0 x1 x2 y0 y1 y2 y3
    obtain ⟨⟨x0, x1, x2⟩, y0, y1, y2, y3⟩ := hX2
    obtain ⟨gk, ok, rfl, hgk, hk0⟩ := hkh.cellAt (j := z) (by omega)
    rw [ivs_get _ z (by rw [nats_len]; omega), nats_get] at hk0
    have i1 : (0 : Int) ≤ (z : Int) := by omega
    have i2 : (z : Int) < (n : Int) := by omega
    clear hkv hb2 hkh hbw2
    go_wp2
    go_ret
    exact ⟨ret_int (by first | (rw [HZ.out, List.getD_eq_getElem?_getD]; done) | (rw [HZ.out, List.getD_eq_getElem?_getD, List.getElem?_eq_getElem (by omega)]; rfl)), HB2.out⟩
set_option maxRecDepth 50000 in
set_option maxHeartbeats 8000000 in
/-- spec.l6Unit -/
theorem sUnit_any (P : List (List UInt8)) (Q : List (Int × Int)) (O : List OpM) (va vb vc : Value) (k : Nat) (hk : k < O.length) (_h14 : O.length ≤ 14) (hu : 0 ≤ (O.getD k default).unt ∧ (O.getD k default).unt ≤ 14) (w : World) (h : HasG w va vb vc P Q O) :
    Calls Tryz.prog 113 #[.agg #[va, vb, vc], .int .i64 (k : Int)] w fun e w' => e = .returned (.tuple #[.agg #[.int .i64 (if (O.getD k default).unt = 0 then 0 else (O.getD k default).unt - 1), .string (bstr []), .int .i64 0, .slice none 0 0], .bool (!decide ((O.getD k default).unt = 0))]) ∧ Below w.heap.size w w' := by
  obtain ⟨A1, c1, A2, c2, A3, c3, rfl, rfl, rfl, _, _, _, h'⟩ := h.shape
  obtain ⟨m1, hm1⟩ : ∃ q, q = P.length := ⟨_, rfl⟩
  obtain ⟨m2, hm2⟩ : ∃ q, q = Q.length := ⟨_, rfl⟩
  obtain ⟨m3, hm3⟩ : ∃ q, q = O.length := ⟨_, rfl⟩
  have HO : HasO 0 w (.slice A3 m3 c3) O := by rw [hm3]; exact h'.o
  rw [← hm1, ← hm2, ← hm3]
  rw [← hm3] at hk
  obtain ⟨g, o, A4, c4, hA, _, hg, _, _, _, _, hc4, _, _, _⟩ := op_at HO hk
  obtain ⟨u, hu'⟩ : ∃ u, u = (O.getD k default).unt := ⟨_, rfl⟩
  rw [← hu'] at hc4 hu ⊢
  subst hA
  have i1 : (0 : Int) ≤ (k : Int) := by omega
  have i2 : (k : Int) < (m3 : Int) := by omega
  have hw : IntKind.i64.wrap (u - 1) = u - 1 := IntWalk.i64_in _ (by omega)
  have hb0 : Below w.heap.size w (w.alloc (.cells #[.slice A1 m1 c1, .slice A2 m2 c2, .slice (some ⟨g, o, none⟩) m3 c3] 30)) := (Below.refl _ _).alloc (Nat.le_refl _) _
  have hz := (hb0.cell (p := ⟨g, o + k * 5 + 4, none⟩) hg).trans hc4
  clear h h' HO hm1 hm2 hm3 hu'
  by_cases h0 : u = 0
  · subst h0
    go_enter Tryz.func113, Tryz.ntmps113
    go_wp2
    refine bodyPost_ret (v := .tuple #[.agg #[.int .i64 0, .string (bstr []), .int .i64 0, .slice none 0 0], .bool false]) (by simp [results, Tryz.results113, go_sem, bstr]) rfl ?_
    exact ⟨rfl, by repeat (first | exact Below.refl _ _ | refine Below.alloc ?_ (by first | (simp; done) | (simp; omega)) _)⟩
  · have d1 : (u == 0) = false := by simp [h0]
    have d2 : decide (u = 0) = false := decide_eq_false h0
    go_enter Tryz.func113, Tryz.ntmps113
    go_wp2
    refine bodyPost_ret (v := .tuple #[.agg #[.int .i64 (u - 1), .string (bstr []), .int .i64 0, .slice none 0 0], .bool true]) (by simp [results, Tryz.results113, go_sem, bstr]) rfl ?_
    exact ⟨rfl, by repeat (first | exact Below.refl _ _ | refine Below.alloc ?_ (by first | (simp; done) | (simp; omega)) _)⟩
end Go.Proofs.YtejmfiocdecigaaGreat.formk
