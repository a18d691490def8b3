/-
 THE WALK OF FnExactMakeTerm.
-/
import Derived.Test.YtkkmjaggebjcbaaGreatTmn
import Derived.Test.YtkkmjaggebjcbaaGreatPk12
import Derived.Test.YtkkmjaggebjcbaaGreatPk15
import Derived.Test.YtkkmjaggebjcbaaGreatPk04
import Derived.Test.YtkkmjaggebjcbaaGreatPk06
namespace Go.Proofs.YtkkmjaggebjcbaaGreat.fnExactMakeTerm
open Go.ChangeShapes Go.WideShapes Go.ChangeAt Go.RowKit
open mem dec setm sets sortm sortn sortp sorti sorts subs split strl join sortf sortu sortg sigm sigs sigt sigu sige rowl trm trmv terml termb termt termu termx gram gramn gramt grami formk formt tmm tmg tmi tmn tmq tmk tmo

abbrev Box33 (x y : Nat) (v0 v1 v2 u0 u1 u2 : Value) (w : World) : Prop := (w.cell? ⟨x, 0, none⟩ = some v0 ∧ w.cell? ⟨x, 1, none⟩ = some v1 ∧ w.cell? ⟨x, 2, none⟩ = some v2) ∧ (w.cell? ⟨y, 0, none⟩ = some u0 ∧ w.cell? ⟨y, 1, none⟩ = some u1 ∧ w.cell? ⟨y, 2, none⟩ = some u2)
theorem mkD_dls (D : List (List Int × Int)) : mkD (dls D) = cntD D := by
 unfold mkD cntD dls
 induction D with
 | nil => rfl
 | cons a D ih => simp only [List.map_cons, List.sum_cons, List.length_cons] at ih ⊢; omega
theorem mkO_ols (O : List OpM) : mkO (ols O) ≤ 4 * cntO O := by
 unfold mkO cntO ols
 induction O with
 | nil => simp
 | cons a O ih => have := mkD_dls a.decls; simp only [List.map_cons, List.sum_cons, List.length_cons, List.map_map] at ih ⊢; omega
theorem ols_le {O : List OpM} (h : cntO O ≤ 1048576) : ∀ d ∈ ols O, ∀ m ∈ d, m ≤ 2097152 := by
 intro d hd m hm
 obtain ⟨o, ho, rfl⟩ := List.mem_map.1 hd
 have h1 : m + 1 ≤ mkD (dls o.decls) := sum_mem (fun x : Nat => x + 1) hm
 have h2 := mkD_dls o.decls
 have h3 : o.name.length + cntD o.decls ≤ _ := sum_mem (fun o : OpM => o.name.length + cntD o.decls) ho
 unfold cntO at h
 omega
/-- laws.heldTerm -/
theorem heldTerm_any {n : Nat} (op : Int) (l : List UInt8) (s : Int) (L : List TermM) (v : Value) (w : World) {lo k : Nat} (h : HasTs n lo w v (mkL tx L k)) (hk : k + 3 * sizes L ≤ 1073741824) :
  Calls Tryz.prog 18 #[.agg #[.int .i64 op, .string (bstr l), .int .i64 s, v], .int .i64 k] w fun e w' => e = .returned (.int .i64 ((k + 3 * sizes L : Nat) : Int)) ∧ Below w.heap.size w w' := by
 have HM := Lib.hid (fun W (hW : Below w.heap.size w W) => heldTermS_any n L v W lo k (h.below (Nat.le_refl _) hW) hk)
 obtain ⟨A, c, rfl, _⟩ := HasR.shape h rfl
 obtain ⟨q, hq⟩ : ∃ q, q = (mkL tx L k).length := ⟨_, rfl⟩
 obtain ⟨r, hr⟩ : ∃ q, q = k + 3 * sizes L := ⟨_, rfl⟩
 rw [← hq] at HM ⊢
 rw [← hr] at HM ⊢
 have hrk := hr
 clear h hq hrk hr
 go_enter Tryz.func18, Tryz.ntmps18
 go_wp2_with fail
 refine (HM.out _ ((Below.refl _ _).alloc (Nat.le_refl _) _)).mono ?_
 rintro e w1 ⟨rfl, h1⟩
 have H1 := Lib.hid (((Below.refl _ _).alloc (Nat.le_refl _) _).trans (h1.mono (by simp)))
 clear h1
 have n2 : ¬ (r : Int) < 0 := by omega
 have n1 : decide ((r : Int) < 0) = false := decide_eq_false (by omega)
 go_wp2
 go_ret
 exact ⟨rfl, H1.out⟩
set_option maxHeartbeats 8000000 in
set_option maxRecDepth 100000 in
theorem go {n : Nat} (P : List (List UInt8)) (Q : List (Int × Int)) (O : List OpM) (va vb vc : Value) (op : Int) (hop : I64 op) (L : List TermM) (ve : Value) (w : World) (h : HasG w va vb vc P Q O) (ht : HasTs n 0 w ve L) :
  Calls Tryz.prog 3 #[.agg #[va, vb, vc], .int .i64 op, ve] w fun e w' => e = .returned (.bool true) ∧ Below w.heap.size w w' := by
 have HSZ := Lib.hid (fun W (hW : Below w.heap.size w W) => tszSignature_any P Q O va vb vc W (h.below (Nat.le_refl _) hW))
 have HSB := Lib.hid (fun W (hW : Below w.heap.size w W) r (h0 : 0 ≤ r) (h1 : r ≤ 1048576) => szTermS_any n L ve W 0 (ht.below (Nat.le_refl _) hW) r h0 h1)
 have HTO := Lib.hid (fun W (hW : Below w.heap.size w W) (hs : (Small P ∧ Q.length ≤ 1048576) ∧ cntO O ≤ 1048576) => toSignature_own P Q O ⟨hs.1, smO_of hs.2⟩ va vb vc W (h.below (Nat.le_refl _) hW))
 have HTT := Lib.hid (fun W (hW : Below w.heap.size w W) (hs : sizes L ≤ 1048576) => toTermS_any n L ve W 0 (ht.below (Nat.le_refl _) hW) hs)
 obtain ⟨z, hz⟩ : ∃ z : Bool, z = true ↔ MakeOk P Q O op L := by
  by_cases hq : MakeOk P Q O op L
  ·exact ⟨true, fun _ => hq, fun _ => rfl⟩
  ·exact ⟨false, fun e => absurd e (by simp), fun e => absurd e hq⟩
 obtain ⟨T, hT⟩ : ∃ T, T = makeT O op L z := ⟨_, rfl⟩
 have HSP : Hid (∀ v1 v2 v3 v4 W lo, HasG W v1 v2 v3 P Q O → HasTs (n + 1) lo W v4 L → sizes L ≤ 1048576 → Calls Tryz.prog 8 #[.agg #[v1, v2, v3], .int .i64 op, v4] W fun e w' => ∃ v', e = .returned (.tuple #[aggT T v', .bool z]) ∧ HasTs (n + 1) W.heap.size w' v' T.args ∧ Below W.heap.size W w') := Lib.hid (fun v1 v2 v3 v4 W lo hG hT' hs => by
  rw [hT]; exact sMake_any P Q O v1 v2 v3 op hop L v4 W hG hT' hs z hz)
 have HIM : Hid (∀ v1 v2 v3 v4 W lo, HasG W v1 v2 v3 P Q O → HasTs (n + 1) lo W v4 L → sizes L ≤ 1048576 → Calls Tryz.prog 11 #[.agg #[v1, v2, v3], .int .i64 op, v4] W fun e w' => ∃ v' S, e = .returned (.tuple #[aggT T v', .bool z]) ∧ OT 34 (depth T) W.heap.size w' v' T.args S ∧ Below W.heap.size W w') := Lib.hid (fun v1 v2 v3 v4 W lo hG hT' hs => by
  rw [hT]; exact iMake_any P Q O v1 v2 v3 op hop L v4 W hG hT' hs z hz)
 have HTZ : Hid (sizes L ≤ 1048576 → sizes T.args ≤ 1048576) := Lib.hid (fun hs => by
  rw [hT]
  unfold makeT orZ
  split
  ·have h1 : size (formO O op.toNat L) ≤ 1 + sizes L := tmc.size_formM _ _ _ _ _
   have h2 := termro.size_eq (formO O op.toNat L)
   omega
  ·have h1 : sizes zT.args = 0 := rfl
   omega)
 have HEA := Lib.hid (fun v1 v2 v3 u1 u2 u3 W (h1 : HasG W v1 v2 v3 P Q O) (h2 : HasG W u1 u2 u3 P Q O) => eqSignature_same P Q O v1 v2 v3 u1 u2 u3 W h1 h2)
 have HEL := Lib.hid (fun v1 v2 W lo lo' (h1 : HasTs (n + 1) lo W v1 L) (h2 : HasTs (n + 1) lo' W v2 L) => eqTermS_same (n + 1) L v1 v2 W lo lo' h1 h2)
 have HEB := Lib.hid (fun v1 v2 W n1 n2 lo lo' (hW : HasTs n1 lo W v1 T.args) (hW' : HasTs n2 lo' W v2 T.args) => eqTerm_any T.op T.name T.sort T.args v1 v2 W hW hW')
 have HMT := Lib.hid (fun v S W lo n1 (hO : OT 34 n1 lo W v T.args S) (hs : sizes T.args ≤ 1048576) => markTerm_any (k := 1) T.op T.name T.sort T.args v S W hO (by omega))
 have HHT := Lib.hid (fun v W lo n1 (hO : HasTs n1 lo W v (mkL tx T.args 1)) (hs : sizes T.args ≤ 1048576) => heldTerm_any (k := 1) T.op T.name T.sort T.args v W hO (by omega))
 have HMG := Lib.hid (fun v1 v2 v3 lo hi W (hs : (Small P ∧ Q.length ≤ 1048576) ∧ cntO O ≤ 1048576) (hh : hi ≤ W.heap.size) (h1 : Rw lo hi W 9 1 v1 P.length) (h2 : Rw lo hi W 163 2 v2 Q.length) (h3 : OpR lo hi W v3 (ols O)) => mSig_any P.length Q.length hs.1.1.1 hs.1.2 (ols O) (by have := mkO_ols O; omega) (ols_le hs.2) v1 v2 v3 W hh h1 h2 h3)
 have HML := Lib.hid (fun v S W lo k (hO : OT 34 (n + 1) lo W v L S) (hs : sizes L ≤ 1048576) (hk : k ≤ 16777216) => markTermS_any (n + 1) L v S W lo k hO (by omega))
 obtain ⟨B, cb, rfl, _⟩ := HasR.shape ht rfl
 obtain ⟨A1, c1, A2, c2, A3, c3, rfl, rfl, rfl, _⟩ := h.shape
 have HSH : Hid (∀ {W v1 v2 v3}, HasG W v1 v2 v3 P Q O → ∃ A1 c1 A2 c2 A3 c3, v1 = .slice A1 P.length c1 ∧ v2 = .slice A2 Q.length c2 ∧ v3 = .slice A3 O.length c3) := Lib.hid (fun h => by
  obtain ⟨A1, c1, A2, c2, A3, c3, e1, e2, e3, _⟩ := h.shape
  exact ⟨A1, c1, A2, c2, A3, c3, e1, e2, e3⟩)
 have HOS : Hid (∀ {W lo v S}, OT 34 (n + 1) lo W v L S → ∃ A c, v = .slice A L.length c) := Lib.hid (fun h => OT.shape h)
 have HTS : Hid (∀ {W n1 lo v}, HasTs n1 lo W v T.args → ∃ A c, v = .slice A T.args.length c) := Lib.hid (fun h => by
  obtain ⟨A, c, e, _⟩ := HasR.shape h rfl
  exact ⟨A, c, e⟩)
 unfold aggT at HSP HIM
 obtain ⟨q, hq⟩ : ∃ q, q = L.length := ⟨_, rfl⟩
 obtain ⟨tl, htl⟩ : ∃ q, q = T.args.length := ⟨_, rfl⟩
 obtain ⟨tz, htz⟩ : ∃ q, q = 1 + 3 * sizes T.args := ⟨_, rfl⟩
 obtain ⟨tq, hto⟩ : ∃ q, q = T.op := ⟨_, rfl⟩
 obtain ⟨tn, htn⟩ : ∃ q, q = T.name := ⟨_, rfl⟩
 obtain ⟨ts, hts⟩ : ∃ q, q = T.sort := ⟨_, rfl⟩
 obtain ⟨m1, hm1⟩ : ∃ q, q = P.length := ⟨_, rfl⟩
 obtain ⟨m2, hm2⟩ : ∃ q, q = Q.length := ⟨_, rfl⟩
 obtain ⟨m3, hm3⟩ : ∃ q, q = O.length := ⟨_, rfl⟩
 obtain ⟨mo, hmo⟩ : ∃ q, q = mkO (ols O) := ⟨_, rfl⟩
 have HMO : Hid (cntO O ≤ 1048576 → mo ≤ 4194304) := Lib.hid (fun h => by have := mkO_ols O; omega)
 rw [← hq] at HSB HTT HOS ⊢
 rw [← hto, ← htn, ← hts] at HSP HIM HEB HMT HHT
 rw [← htl] at HTS
 rw [← htz] at HMT HHT
 rw [← hm1, ← hm2, ← hm3] at HSZ HTO HSH ⊢
 rw [← hm1, ← hm2, ← hmo] at HMG
 obtain ⟨kk, hkk⟩ : ∃ q, q = 1 + m1 + 2 * m2 + mo := ⟨_, rfl⟩
 obtain ⟨kl, hkl⟩ : ∃ q, q = kk + 3 * sizes L := ⟨_, rfl⟩
 rw [← hkk] at HMG
 have HML' : Hid (∀ v S W lo, OT 34 (n + 1) lo W v L S → sizes L ≤ 1048576 → kk ≤ 16777216 → Calls Tryz.prog 16 #[v, .int .i64 (kk : Int)] W fun e w' => e = .returned (.int .i64 (kl : Int)) ∧ Chg S W w') := Lib.hid (fun v S W lo hO hs hk => by
  rw [hkl]
  exact (HML.out v S W lo kk hO hs hk).mono (fun e w' h => ⟨h.1, h.2.2⟩))
 obtain ⟨SmP, hSmP⟩ : ∃ p : Prop, p = ((Small P ∧ m2 ≤ 1048576) ∧ cntO O ≤ 1048576) := ⟨_, rfl⟩
 have HSS : Hid (SmP → kk ≤ 16777216) := Lib.hid (fun h => by rw [hSmP] at h; have h1 := h.1.1.1; have h2 := h.1.2; have h3 := HMO.out h.2; omega)
 rw [← hSmP] at HSZ HTO
 rw [← hSmP] at HMG
 clear h ht hz hq hto htn hts hm1 hm2 hm3 hmo htl htz hSmP hT hop HMO hkk hkl HML
 have hX0 : ∀ ob, (w.alloc ob).heap[w.heap.size]? = some ob := fun ob => termt.heap_at _ _ _ rfl
 obtain ⟨W, hW⟩ : ∃ W, W = w.alloc (.cells #[.slice A1 m1 c1, .slice A2 m2 c2, .slice A3 m3 c3] 28) := ⟨_, rfl⟩
 have hb0 : Below w.heap.size w W := by
  rw [hW]
  repeat (first | exact Below.refl _ _ | refine Below.alloc ?_ (by first | (simp; done) | (simp; omega)) _)
 have hX : W.heap[w.heap.size]? = some (.cells #[.slice A1 m1 c1, .slice A2 m2 c2, .slice A3 m3 c3] 28 (0, 0)) := by rw [hW]; exact hX0 _
 have HX := Lib.hid hX
 have HB0 := Lib.hid hb0
 clear hb0 hX hX0
 go_enter Tryz.func3, Tryz.ntmps3
 go_wp2_with fail
 rw [← hW]
 clear hW
 refine (HSZ.out _ HB0.out).mono ?_
 rintro e w1 ⟨r, rfl, hr, hr1, hr2, hb1⟩
 have HB1 := Lib.hid (HB0.out.trans (hb1.mono HB0.out.size))
 have HX1 := Lib.hid ((hb1.block _ (Array.getElem?_eq_some_iff.1 HX.out).1).trans HX.out)
 have HR := Lib.hid hr
 clear hb1 HX HB0 hr HSZ
 by_cases hneg : r < 0
 ·go_wp2
  go_ret
  exact ⟨rfl, HB1.out⟩
 go_wp2_with fail
 refine (HSB.out _ HB1.out r (by omega) hr2).mono ?_
 rintro e w2 ⟨r', rfl, hr', hr1', hr2', hb2⟩
 have HB2 := Lib.hid (HB1.out.trans (hb2.mono HB1.out.size))
 have HX2 := Lib.hid ((hb2.block _ (Array.getElem?_eq_some_iff.1 HX1.out).1).trans HX1.out)
 have HR' := Lib.hid hr'
 clear hb2 HX1 HB1 hr' HSB
 by_cases hneg' : r' < 0
 ·go_wp2
  go_ret
  exact ⟨rfl, HB2.out⟩
 have HSM := Lib.hid (And.intro (HR.out (by omega)) (show sizes L ≤ 1048576 by have := HR'.out (by omega); omega))
 clear HR HR' hr1' hr2' hr2 hr1
 have hwz : w.heap.size ≤ w2.heap.size := HB2.out.size
 have hwz2 : w.heap.size < w2.heap.size := (Array.getElem?_eq_some_iff.1 HX2.out).1
 obtain ⟨x0, x1, x2⟩ := box3 HX2.out
 go_wp2_with fail
 refine (HTO.out w2 HB2.out HSM.out.1).mono ?_
 rintro e w3 ⟨v1, v2, v3, rfl, hG, _, _, _, hb3⟩
 obtain ⟨D1, d1, D2, d2, D3, d3, rfl, rfl, rfl⟩ := HSH.out hG
 have HB3 := Lib.hid (HB2.out.trans (hb3.mono HB2.out.size))
 have HG3 := Lib.hid hG
 have HX3 := Lib.hid ((hb3.block _ hwz2).trans HX2.out)
 have hz3 := hb3.size
 clear hG hb3 x0 x1 x2
 go_wp2_with fail
 refine (HTT.out w3 HB3.out HSM.out.2).mono ?_
 rintro e w4 ⟨v4, S4, rfl, ho, hb4⟩
 obtain ⟨E1, e1, rfl⟩ := HOS.out ho
 have HB4 := Lib.hid (HB3.out.trans (hb4.mono HB3.out.size))
 have HG4 := Lib.hid (HG3.out.below (Nat.le_refl _) hb4)
 have HO4 := Lib.hid ho
 have HX4 := Lib.hid ((hb4.block _ (by omega)).trans HX3.out)
 have hz4 := hb4.size
 clear ho hb4
 go_wp2_with fail
 refine (HSP.out _ _ _ _ w4 _ HG4.out HO4.out.has HSM.out.2).mono ?_
 rintro e w5 ⟨v5, rfl, h5, hb5⟩
 obtain ⟨F5, f5, rfl⟩ := HTS.out h5
 have HB5 := Lib.hid (HB4.out.trans (hb5.mono HB4.out.size))
 have HX5 := Lib.hid ((hb5.block _ (by omega)).trans HX4.out)
 have H5 := Lib.hid h5
 have hz5 := hb5.size
 clear h5 hb5
 have hXa : ∀ ob, (w5.alloc ob).heap[w.heap.size]? = some (.cells #[.slice A1 m1 c1, .slice A2 m2 c2, .slice A3 m3 c3] 28 (0, 0)) := fun ob => (((Below.refl _ _).alloc (Nat.le_refl _) ob).block _ (by omega)).trans HX5.out
 have x0 := fun ob => (box3 (hXa ob)).1
 have x1 := fun ob => (box3 (hXa ob)).2.1
 have x2 := fun ob => (box3 (hXa ob)).2.2
 go_wp2_with fail
 obtain ⟨W6, hW6⟩ : ∃ W6, W6 = w5.alloc (.cells #[.int .i64 tq, .string (bstr tn), .int .i64 ts, .slice F5 tl f5] 34) := ⟨_, rfl⟩
 have hb56 : Below w5.heap.size w5 W6 := by rw [hW6]; exact (Below.refl _ _).alloc (Nat.le_refl _) _
 have hY6 : W6.heap[w5.heap.size]? = some (.cells #[.int .i64 tq, .string (bstr tn), .int .i64 ts, .slice F5 tl f5] 34 (0, 0)) := by rw [hW6]; exact termt.heap_at _ _ _ rfl
 have hX6 : W6.heap[w.heap.size]? = some (.cells #[.slice A1 m1 c1, .slice A2 m2 c2, .slice A3 m3 c3] 28 (0, 0)) := by rw [hW6]; exact hXa _
 have hz6 : W6.heap.size = w5.heap.size + 1 := by rw [hW6]; simp
 rw [← hW6]
 have HB6 := Lib.hid (HB5.out.trans (hb56.mono HB5.out.size))
 have HB6' := Lib.hid (HB5.out.trans (hb56.mono HB5.out.size))
 have H6 := Lib.hid (H5.out.below (Nat.le_refl _) hb56)
 have HY6 := Lib.hid hY6
 have HX6 := Lib.hid hX6
 clear hW6 hb56 hY6 hX6 hXa x0 x1 x2 HB2 HB3 HB4 HX2 HX3 HX4 HX5 HG3 HG4 HO4 H5 HSP
 refine (HTO.out W6 HB6.out HSM.out.1).mono ?_
 rintro e w7 ⟨v1, v2, v3, rfl, hG, hr1, hr2, hr3, hb7⟩
 obtain ⟨G1, g1, G2, g2, G3, g3, rfl, rfl, rfl⟩ := HSH.out hG
 have HB7 := Lib.hid (HB6.out.trans (hb7.mono HB6.out.size))
 have HB67 := Lib.hid hb7
 have HG7 := Lib.hid hG
 have HR1 := Lib.hid hr1
 have HR2 := Lib.hid hr2
 have HR3 := Lib.hid hr3
 have HX7 := Lib.hid ((hb7.block _ (by omega)).trans HX6.out)
 have HY7 := Lib.hid ((hb7.block _ (by omega)).trans HY6.out)
 have H7 := Lib.hid (H6.out.below (Nat.le_refl _) hb7)
 have hz7 := hb7.size
 clear hG hb7 hr1 hr2 hr3
 have hXa : ∀ ob, (w7.alloc ob).heap[w.heap.size]? = some (.cells #[.slice A1 m1 c1, .slice A2 m2 c2, .slice A3 m3 c3] 28 (0, 0)) := fun ob => (((Below.refl _ _).alloc (Nat.le_refl _) ob).block _ (by omega)).trans HX7.out
 go_wp2_with fail
 obtain ⟨W8, hW8⟩ : ∃ W8, W8 = w7.alloc (.cells #[.slice G1 m1 g1, .slice G2 m2 g2, .slice G3 m3 g3] 42) := ⟨_, rfl⟩
 have hb78 : Below w7.heap.size w7 W8 := by rw [hW8]; exact (Below.refl _ _).alloc (Nat.le_refl _) _
 have hU8 : W8.heap[w7.heap.size]? = some (.cells #[.slice G1 m1 g1, .slice G2 m2 g2, .slice G3 m3 g3] 42 (0, 0)) := by rw [hW8]; exact termt.heap_at _ _ _ rfl
 have hz8 : W8.heap.size = w7.heap.size + 1 := by rw [hW8]; simp
 rw [← hW8]
 have HB8 := Lib.hid (HB7.out.trans (hb78.mono HB7.out.size))
 have HB78 := Lib.hid hb78
 have HU8 := Lib.hid hU8
 clear hW8 hb78 hU8 hXa
 refine (HTT.out W8 HB8.out HSM.out.2).mono ?_
 rintro e w9 ⟨v9, S9, rfl, ho, hb9⟩
 obtain ⟨E9, e9, rfl⟩ := HOS.out ho
 have HB79 : Hid (Below w7.heap.size w7 w9) := Lib.hid (HB78.out.trans (hb9.mono (by omega)))
 have HO9 := Lib.hid ho
 have HS9 : Hid (∀ k ∈ S9, W8.heap.size ≤ k ∧ k < w9.heap.size) := Lib.hid (fun k hk => ho.lt k hk)
 have HU9 := Lib.hid ((hb9.block _ (by omega)).trans HU8.out)
 have hz9 := hb9.size
 obtain ⟨x0, x1, x2⟩ := box3 HU9.out
 clear ho hb9
 go_wp2_with fail
 refine (HIM.out _ _ _ _ w9 _ (HG7.out.below (Nat.le_refl _) HB79.out) HO9.out.has HSM.out.2).mono ?_
 rintro e w10 ⟨v10, S10, rfl, ho, hb10⟩
 obtain ⟨F10, f10, rfl⟩ := HTS.out ho.has
 have HB710 : Hid (Below w7.heap.size w7 w10) := Lib.hid (HB79.out.trans (hb10.mono HB79.out.size))
 have HO10 := Lib.hid (HO9.out.below hb10)
 have HS10 : Hid (∀ k ∈ S10, w9.heap.size ≤ k ∧ k < w10.heap.size) := Lib.hid (fun k hk => ho.lt k hk)
 have HP10 := Lib.hid ho
 have HU10 := Lib.hid ((hb10.block _ (by omega)).trans HU9.out)
 have hz10 := hb10.size
 clear ho hb10 x0 x1 x2 HU8 HU9 HB78 HB79 HO9 HB8 HX6 HY6 HB6
 have hblk : ∀ ob, (w10.alloc ob).heap[w.heap.size]? = some (.cells #[.slice A1 m1 c1, .slice A2 m2 c2, .slice A3 m3 c3] 28 (0, 0)) ∧ (w10.alloc ob).heap[w7.heap.size]? = some (.cells #[.slice G1 m1 g1, .slice G2 m2 g2, .slice G3 m3 g3] 42 (0, 0)) ∧ (w10.alloc ob).heap[w5.heap.size]? = some (.cells #[.int .i64 tq, .string (bstr tn), .int .i64 ts, .slice F5 tl f5] 34 (0, 0)) := fun ob => by
  have hb := (Below.refl w10.heap.size w10).alloc (Nat.le_refl _) ob
  exact ⟨(hb.block _ (by omega)).trans ((HB710.out.block _ (by omega)).trans HX7.out), (hb.block _ (by omega)).trans HU10.out, (hb.block _ (by omega)).trans ((HB710.out.block _ (by omega)).trans HY7.out)⟩
 have hloc : ∀ ob, (w10.alloc ob).heap[w10.heap.size]? = some ob := fun ob => termt.heap_at _ _ _ rfl
 have y0 := fun ob => (box4 (hblk ob).2.2).1
 have y1 := fun ob => (box4 (hblk ob).2.2).2.1
 have y2 := fun ob => (box4 (hblk ob).2.2).2.2.1
 have y3 := fun ob => (box4 (hblk ob).2.2).2.2.2
 have hne5 : w5.heap.size ≠ w10.heap.size := by omega
 have nz : (z != z) = false := by simp
 go_wp2_with fail
 obtain ⟨W, hW⟩ : ∃ W, W = w10.alloc (.cells #[.int .i64 tq, .string (bstr tn), .int .i64 ts, .slice F10 tl f10] 34) := ⟨_, rfl⟩
 have hbW : Below w10.heap.size w10 W := by rw [hW]; exact (Below.refl _ _).alloc (Nat.le_refl _) _
 have hV : W.heap[w10.heap.size]? = some (.cells #[.int .i64 tq, .string (bstr tn), .int .i64 ts, .slice F10 tl f10] 34 (0, 0)) := by rw [hW]; exact hloc _
 have hA := (hblk (.cells #[.int .i64 tq, .string (bstr tn), .int .i64 ts, .slice F10 tl f10] 34)).1
 have hU := (hblk (.cells #[.int .i64 tq, .string (bstr tn), .int .i64 ts, .slice F10 tl f10] 34)).2.1
 have hY := (hblk (.cells #[.int .i64 tq, .string (bstr tn), .int .i64 ts, .slice F10 tl f10] 34)).2.2
 rw [← hW] at hA hU hY
 have hzW : W.heap.size = w10.heap.size + 1 := by rw [hW]; simp
 rw [← hW]
 clear hW y0 y1 y2 y3 hblk hloc
 have hb7W := HB710.out.trans (hbW.mono HB710.out.size)
 have HBW := Lib.hid (HB7.out.trans (hb7W.mono HB7.out.size))
 have FC : Hid (∀ wk, Below W.heap.size W wk → Below w.heap.size w wk ∧ (wk.cell? ⟨w.heap.size, 0, none⟩ = some (.slice A1 m1 c1) ∧ wk.cell? ⟨w.heap.size, 1, none⟩ = some (.slice A2 m2 c2) ∧ wk.cell? ⟨w.heap.size, 2, none⟩ = some (.slice A3 m3 c3)) ∧ (wk.cell? ⟨w7.heap.size, 0, none⟩ = some (.slice G1 m1 g1) ∧ wk.cell? ⟨w7.heap.size, 1, none⟩ = some (.slice G2 m2 g2) ∧ wk.cell? ⟨w7.heap.size, 2, none⟩ = some (.slice G3 m3 g3)) ∧
   (wk.cell? ⟨w5.heap.size, 0, none⟩ = some (.int .i64 tq) ∧ wk.cell? ⟨w5.heap.size, 1, none⟩ = some (.string (bstr tn)) ∧ wk.cell? ⟨w5.heap.size, 2, none⟩ = some (.int .i64 ts) ∧ wk.cell? ⟨w5.heap.size, 3, none⟩ = some (.slice F5 tl f5)) ∧
   (wk.cell? ⟨w10.heap.size, 0, none⟩ = some (.int .i64 tq) ∧ wk.cell? ⟨w10.heap.size, 1, none⟩ = some (.string (bstr tn)) ∧ wk.cell? ⟨w10.heap.size, 2, none⟩ = some (.int .i64 ts) ∧ wk.cell? ⟨w10.heap.size, 3, none⟩ = some (.slice F10 tl f10))) := Lib.hid (fun wk hk =>
  ⟨HBW.out.trans (hk.mono HBW.out.size), box3 ((hk.block _ (by omega)).trans hA), box3 ((hk.block _ (by omega)).trans hU), box4 ((hk.block _ (by omega)).trans hY), box4 ((hk.block _ (by omega)).trans hV)⟩)
 have FM : Hid (∀ wk, Below W.heap.size W wk → HasTs (n + 1) w4.heap.size wk (.slice F5 tl f5) T.args ∧ HasG wk (.slice G1 m1 g1) (.slice G2 m2 g2) (.slice G3 m3 g3) P Q O ∧ OT 34 (n + 1) W8.heap.size wk (.slice E9 q e9) L S9 ∧ OT 34 (depth T) w9.heap.size wk (.slice F10 tl f10) T.args S10) := Lib.hid (fun wk hk => by
  have hk7 := hb7W.trans (hk.mono hb7W.size)
  have hk10 := hbW.trans (hk.mono hbW.size)
  exact ⟨H7.out.below (Nat.le_refl _) hk7, HG7.out.below (Nat.le_refl _) hk7, HO10.out.below hk10, HP10.out.below hk10⟩)
 have FB := Lib.hid (And.intro hA (And.intro hU (And.intro hY hV)))
 have F7 := Lib.hid hb7W
 have F6 : Hid (Below W6.heap.size W6 W) := Lib.hid (HB67.out.trans (hb7W.mono HB67.out.size))
 have FX : Hid (∀ X, X.heap[w.heap.size]? = W.heap[w.heap.size]? → X.heap[w5.heap.size]? = W.heap[w5.heap.size]? → X.heap[w10.heap.size]? = W.heap[w10.heap.size]? → Below W6.heap.size W6 X → W.heap.size ≤ X.heap.size → ∀ wk, Below X.heap.size X wk → Below w.heap.size w wk ∧ (wk.cell? ⟨w.heap.size, 0, none⟩ = some (.slice A1 m1 c1) ∧ wk.cell? ⟨w.heap.size, 1, none⟩ = some (.slice A2 m2 c2) ∧ wk.cell? ⟨w.heap.size, 2, none⟩ = some (.slice A3 m3 c3)) ∧
   (wk.cell? ⟨w5.heap.size, 0, none⟩ = some (.int .i64 tq) ∧ wk.cell? ⟨w5.heap.size, 1, none⟩ = some (.string (bstr tn)) ∧ wk.cell? ⟨w5.heap.size, 2, none⟩ = some (.int .i64 ts) ∧ wk.cell? ⟨w5.heap.size, 3, none⟩ = some (.slice F5 tl f5)) ∧
   (wk.cell? ⟨w10.heap.size, 0, none⟩ = some (.int .i64 tq) ∧ wk.cell? ⟨w10.heap.size, 1, none⟩ = some (.string (bstr tn)) ∧ wk.cell? ⟨w10.heap.size, 2, none⟩ = some (.int .i64 ts) ∧ wk.cell? ⟨w10.heap.size, 3, none⟩ = some (.slice F10 tl f10)) ∧ HasTs (n + 1) w4.heap.size wk (.slice F5 tl f5) T.args) := Lib.hid (fun X e1 e2 e3 h6 hs wk hk => by
  have h6k := h6.trans (hk.mono h6.size)
  exact ⟨HB6'.out.trans (h6k.mono HB6'.out.size), box3 ((hk.block _ (by omega)).trans (e1.trans hA)), box4 ((hk.block _ (by omega)).trans (e2.trans hY)), box4 ((hk.block _ (by omega)).trans (e3.trans hV)), H6.out.below (Nat.le_refl _) h6k⟩)
 have FW := Lib.hid (Below.refl W.heap.size W)
 clear hA hU hY hV hbW hb7W HB710 HO10 HP10 HG7 H7 HX7 HY7 HU10 HBW HB7 HB5 H6 HB67 HB6'
 refine (HEB.out _ _ W _ _ _ _ (FM.out W FW.out).2.2.2.has (FM.out W FW.out).1).mono ?_
 rintro e w12 ⟨rfl, hb12⟩
 have HK12 : Hid (Below W.heap.size W w12) := Lib.hid hb12
 clear hb12
 obtain ⟨_, ⟨a0, a1, a2⟩, ⟨x0, x1, x2⟩, _, _⟩ := FC.out w12 HK12.out
 go_wp2_with fail
 clear a0 a1 a2 x0 x1 x2
 refine wp_region_noPanic ?_
 refine wp_region_held_drew (S := (Box33 w.heap.size w7.heap.size (.slice A1 m1 c1) (.slice A2 m2 c2) (.slice A3 m3 c3) (.slice G1 m1 g1) (.slice G2 m2 g2) (.slice G3 m3 g3))) (by kernel_rfl) ?_ (fun hHd0 => ?_)
 ·exact ⟨(FC.out _ HK12.out.drew).2.1, (FC.out _ HK12.out.drew).2.2.1⟩
 refine wpAnyH_take (i := 0) (v := ?_) rfl (by kernel_rfl) (by kernel_rfl) (by kernel_rfl) (fun _ _ _ h => h) (Or.inl ⟨by rfl, ?_⟩) (by with_reducible assumption) ?_
 rotate_left
 ·intro w hSw; (try dsimp only at hSw); go_simp <;> with_reducible rfl
 (try simp only [Act.put]); (try simp only [List.setIfInBounds_toArray]); (try simp only [List.set_cons_succ, List.set_cons_zero])
 refine wpAnyH_take (i := 1) (v := ?_) rfl (by kernel_rfl) (by kernel_rfl) (by kernel_rfl) (fun _ _ _ h => h) (Or.inl ⟨by rfl, ?_⟩) (by with_reducible assumption) ?_
 rotate_left
 ·intro w hSw; (try dsimp only at hSw); go_simp <;> with_reducible rfl
 (try simp only [Act.put]); (try simp only [List.setIfInBounds_toArray]); (try simp only [List.set_cons_succ, List.set_cons_zero])
 refine wpAnyH_ready (rs := [2]) (by kernel_rfl) (by simp) ?_
 refine AllReadyH.cons (o := _) rfl (fun K hK => ?_) ?_
 ·(go_simp; refine (HTO.out w12.drew (FC.out _ HK12.out.drew).1 HSM.out.1).mono ?_; rintro e w13 ⟨u1, u2, u3, rfl, hG13, _, _, _, hb13⟩; obtain ⟨J1, j1, J2, j2, J3, j3, rfl, rfl, rfl⟩ := HSH.out hG13; have hK13 : Below W.heap.size W w13 := HK12.out.drew.trans (hb13.mono HK12.out.drew.size); have hX13 := (show (Box33 w.heap.size w7.heap.size (.slice A1 m1 c1) (.slice A2 m2 c2) (.slice A3 m3 c3) (.slice G1 m1 g1) (.slice G2 m2 g2) (.slice G3 m3 g3)) w13 from ⟨(FC.out w13 hK13).2.1, (FC.out w13 hK13).2.2.1⟩); (try dsimp only))
  refine hK.out _ _ ?_ (fun hHd1 => ?_)
  ·(try dsimp only); first | (with_reducible assumption) | (exact hX13) | (exact hX14)
  clear hK K hHd0
  (try simp only [Act.put]); (try simp only [List.setIfInBounds_toArray]); (try simp only [List.set_cons_succ, List.set_cons_zero])
  refine wpAnyH_ready (rs := [3]) (by kernel_rfl) (by simp) ?_
  refine AllReadyH.cons (o := _) rfl (fun K hK => ?_) ?_
  ·(go_simp; refine (HEA.out _ _ _ _ _ _ w13 (FM.out w13 hK13).2.1 hG13).mono ?_; rintro e w14 ⟨rfl, hb14⟩; have hK14 : Below W.heap.size W w14 := hK13.trans (hb14.mono hK13.size); have hX14 := (show (Box33 w.heap.size w7.heap.size (.slice A1 m1 c1) (.slice A2 m2 c2) (.slice A3 m3 c3) (.slice G1 m1 g1) (.slice G2 m2 g2) (.slice G3 m3 g3)) w14 from ⟨(FC.out w14 hK14).2.1, (FC.out w14 hK14).2.2.1⟩); (try dsimp only))
   refine hK.out _ _ ?_ (fun hHd2 => ?_)
   ·(try dsimp only); first | (with_reducible assumption) | (exact hX13) | (exact hX14)
   clear hK K hHd1
   (try simp only [Act.put]); (try simp only [List.setIfInBounds_toArray]); (try simp only [List.set_cons_succ, List.set_cons_zero])
   refine wpAnyH_ready (rs := [4]) (by kernel_rfl) (by simp) ?_
   refine AllReadyH.cons (o := _) rfl (fun K hK => ?_) ?_
   ·go_simp
    refine hK.out _ _ ?_ (fun hHd3 => ?_)
    ·(try dsimp only); first | (with_reducible assumption) | (exact hX13) | (exact hX14)
    clear hK K hHd2
    (try simp only [Act.put]); (try simp only [List.setIfInBounds_toArray]); (try simp only [List.set_cons_succ, List.set_cons_zero])
    refine wpAnyH_done (by kernel_rfl) ?_ _
    refine NoPanic.normal ?_
    have HK14 := Lib.hid hK14
    clear hX13 hX14 hb13 hb14 hK13 hK14
    go_wp2_with fail
    refine (HTT.out w14 (FC.out _ HK14.out).1 HSM.out.2).mono ?_
    rintro e w15 ⟨v15, S15, rfl, ho15, hb15⟩
    obtain ⟨J4, j4, rfl⟩ := HOS.out ho15
    have HK15 : Hid (Below W.heap.size W w15) := Lib.hid (HK14.out.trans (hb15.mono HK14.out.size))
    have HO15 := Lib.hid ho15
    clear ho15 hb15 HK14
    go_wp2_with fail
    refine (HEL.out _ _ w15 _ _ (FM.out w15 HK15.out).2.2.1.has HO15.out.has).mono ?_
    rintro e w16 ⟨rfl, hb16⟩
    have HK16 : Hid (Below W.heap.size W w16) := Lib.hid (HK15.out.trans (hb16.mono HK15.out.size))
    clear hb16 HO15 HK15
    obtain ⟨_, _, ⟨x0, x1, x2⟩, _, _⟩ := FC.out w16 HK16.out
    have hz16 := HK16.out.size
    have H716 : Hid (Below w7.heap.size w7 w16) := Lib.hid (F7.out.trans (HK16.out.mono F7.out.size))
    go_wp2_with fail
    clear x0 x1 x2
    -- marks in the arguments
    refine (HMG.out _ _ _ W6.heap.size w7.heap.size w16 HSM.out.1 (by omega) (Rw.kept HR1.out (Kept.below H716.out (Nat.le_refl _))) (Rw.kept HR2.out (Kept.below H716.out (Nat.le_refl _))) (OpR.kept HR3.out (Kept.below H716.out (Nat.le_refl _)))).mono ?_
    rintro e w17 ⟨rfl, ht17⟩
    have hc17 := ht17.chg
    have hlo : ∀ k ∈ List.range' W6.heap.size (w7.heap.size - W6.heap.size), W6.heap.size ≤ k ∧ k < w7.heap.size := fun k hk => by
     have := List.mem_range'_1.1 hk
     omega
    have HO17 : Hid (OT 34 (n + 1) W8.heap.size w17 (.slice E9 q e9) L S9 ∧ OT 34 (depth T) w9.heap.size w17 (.slice F10 tl f10) T.args S10) := Lib.hid ⟨(FM.out w16 HK16.out).2.2.1.chg hc17 (fun k hk hm => by have := HS9.out k hk; have := hlo k hm; omega), (FM.out w16 HK16.out).2.2.2.chg hc17 (fun k hk hm => by have := HS10.out k hk; have := hlo k hm; omega)⟩
    have HC17 : Hid (Chg (List.range' W6.heap.size (w7.heap.size - W6.heap.size)) w16 w17) := Lib.hid hc17
    have HLO := Lib.hid hlo
    have HKK := Lib.hid (HSS.out HSM.out.1)
    clear ht17 hc17 hlo
    go_wp2_with fail
    refine (HML'.out _ S9 w17 _ HO17.out.1 HSM.out.2 HKK.out).mono ?_
    rintro e w18 ⟨rfl, hc18⟩
    have HP18 : Hid (OT 34 (depth T) w9.heap.size w18 (.slice F10 tl f10) T.args S10) := Lib.hid (HO17.out.2.chg hc18 (fun k hk hm => by have := HS10.out k hk; have := HS9.out k hm; omega))
    have hz17 := HC17.out.size
    have hz18 := hc18.size
    have hblk : ∀ k, (k < W6.heap.size ∨ k = w7.heap.size ∨ k = w10.heap.size) → w18.heap[k]? = W.heap[k]? := fun k hk => by
     rw [hc18.block k (by omega) (fun hm => by have := HS9.out k hm; omega), HC17.out.block k (by omega) (fun hm => by have := HLO.out k hm; omega)]
     exact HK16.out.block k (by omega)
    have H618 : Hid (Below W6.heap.size W6 w18) := Lib.hid (((F6.out.trans (HK16.out.mono F6.out.size)).trans (HC17.out.below (by omega) (fun k hk => (HLO.out k hk).1))).trans (hc18.below (by omega) (fun k hk => by have := HS9.out k hk; omega)))
    have GX := Lib.hid (FX.out w18 (hblk _ (by omega)) (hblk _ (by omega)) (hblk _ (by omega)) H618.out (by omega))
    have HBK := Lib.hid hblk
    have n18 : decide ((kl : Int) < 0) = false := decide_eq_false (by omega)
    have n18' : ¬ (kl : Int) < 0 := by omega
    clear hc18 hblk HO17 HC17
    obtain ⟨_, _, ⟨y0, y1, y2, y3⟩, ⟨p0, p1, p2, p3⟩, _⟩ := GX.out w18 (Below.refl _ _)
    go_wp2_with fail
    clear y0 y1 y2 y3 p0 p1 p2 p3
    refine (HEB.out _ _ w18 _ _ _ _ HP18.out.has (GX.out w18 (Below.refl _ _)).2.2.2.2).mono ?_
    rintro e w19 ⟨rfl, hb19⟩
    have HK19 : Hid (Below w18.heap.size w18 w19) := Lib.hid hb19
    have HP19 := Lib.hid (HP18.out.below hb19)
    clear hb19
    obtain ⟨_, _, _, ⟨p0, p1, p2, p3⟩, _⟩ := GX.out w19 HK19.out
    -- marks in the answer
    go_wp2_with fail
    clear p0 p1 p2 p3
    refine (HMT.out _ S10 w19 _ _ HP19.out (HTZ.out HSM.out.2)).mono ?_
    rintro e w20 ⟨rfl, ho20, hc20⟩
    have HP20 := Lib.hid ho20
    have hz19 := HK19.out.size
    have hz20 := hc20.size
    have hblk : ∀ k, (k < W6.heap.size ∨ k = w10.heap.size) → w20.heap[k]? = W.heap[k]? := fun k hk => by
     rw [hc20.block k (by omega) (fun hm => by have := HS10.out k hm; omega), HK19.out.block k (by omega)]
     exact HBK.out k (by omega)
    have H620 : Hid (Below W6.heap.size W6 w20) := Lib.hid ((H618.out.trans (HK19.out.mono H618.out.size)).trans (hc20.below (by omega) (fun k hk => by have := HS10.out k hk; omega)))
    have GY := Lib.hid (FX.out w20 (hblk _ (by omega)) (hblk _ (by omega)) (hblk _ (by omega)) H620.out (by omega))
    have m20 : ((tz : Int) != (tz : Int)) = false := by simp
    have m20' : (tz != tz) = false := by simp
    have n20 : decide ((tz : Int) < 0) = false := decide_eq_false (by omega)
    have n20' : ¬ (tz : Int) < 0 := by omega
    clear ho20 hc20 hblk HP19 HP18 HK19
    obtain ⟨_, _, _, ⟨p0, p1, p2, p3⟩, _⟩ := GY.out w20 (Below.refl _ _)
    go_wp2_with fail
    clear p0 p1 p2 p3
    refine (HHT.out _ w20 _ _ HP20.out.has (HTZ.out HSM.out.2)).mono ?_
    rintro e w21 ⟨rfl, hb21⟩
    have HK21 : Hid (Below w20.heap.size w20 w21) := Lib.hid hb21
    clear hb21
    obtain ⟨_, ⟨a0, a1, a2⟩, _, _, _⟩ := GY.out w21 HK21.out
    -- once more
    go_wp2_with fail
    clear a0 a1 a2
    refine (HTO.out w21 (GY.out w21 HK21.out).1 HSM.out.1).mono ?_
    rintro e w22 ⟨u1, u2, u3, rfl, hG22, _, _, _, hb22⟩
    obtain ⟨J1, j1, J2, j2, J3, j3, rfl, rfl, rfl⟩ := HSH.out hG22
    have HK22 : Hid (Below w20.heap.size w20 w22) := Lib.hid (HK21.out.trans (hb22.mono HK21.out.size))
    have HG22 := Lib.hid hG22
    clear hG22 hb22 HK21
    go_wp2_with fail
    refine (HTT.out w22 (GY.out w22 HK22.out).1 HSM.out.2).mono ?_
    rintro e w23 ⟨v23, S23, rfl, ho23, hb23⟩
    obtain ⟨J5, j5, rfl⟩ := HOS.out ho23
    have HK23 : Hid (Below w20.heap.size w20 w23) := Lib.hid (HK22.out.trans (hb23.mono HK22.out.size))
    have HG23 := Lib.hid (HG22.out.below (Nat.le_refl _) hb23)
    have HO23 := Lib.hid ho23
    clear ho23 hb23 HK22 HG22
    go_wp2_with fail
    refine (HIM.out _ _ _ _ w23 _ HG23.out HO23.out.has HSM.out.2).mono ?_
    rintro e w24 ⟨v24, S24, rfl, ho24, hb24⟩
    obtain ⟨F24, f24, rfl⟩ := HTS.out ho24.has
    have HK24 : Hid (Below w20.heap.size w20 w24) := Lib.hid (HK23.out.trans (hb24.mono HK23.out.size))
    have HO24 := Lib.hid ho24
    have hz24 := HK24.out.size
    clear ho24 hb24 HK23 HG23 HO23
    have hall := fun ob => (GY.out (w24.alloc ob) (HK24.out.alloc hz24 ob)).2.2.1
    have y0 := fun ob => (hall ob).1
    have y1 := fun ob => (hall ob).2.1
    have y2 := fun ob => (hall ob).2.2.1
    have y3 := fun ob => (hall ob).2.2.2
    have hne : w5.heap.size ≠ w24.heap.size := by omega
    have HK25 : Hid (∀ ob, Below w20.heap.size w20 (w24.alloc ob) ∧ OT 34 (depth T) w23.heap.size (w24.alloc ob) (.slice F24 tl f24) T.args S24) := Lib.hid (fun ob => ⟨HK24.out.alloc hz24 ob, HO24.out.below ((Below.refl _ _).alloc (Nat.le_refl _) ob)⟩)
    go_wp2_with fail
    clear hall y0 y1 y2 y3
    refine (HEB.out _ _ _ _ _ _ _ (HK25.out _).2.has (GY.out _ (HK25.out _).1).2.2.2.2).mono ?_
    rintro e w26 ⟨rfl, hb26⟩
    have HK26 : Hid (Below w20.heap.size w20 w26) := Lib.hid ((HK25.out _).1.trans (hb26.mono (HK25.out _).1.size))
    clear hb26 HK25 HK24 HO24
    obtain ⟨_, _, _, ⟨p0, p1, p2, p3⟩, _⟩ := GY.out w26 HK26.out
    go_wp2_with fail
    clear p0 p1 p2 p3
    refine (HHT.out _ w26 _ _ (HP20.out.below HK26.out).has (HTZ.out HSM.out.2)).mono ?_
    rintro e w27 ⟨rfl, hb27⟩
    have HF : Hid (Below w.heap.size w w27) := Lib.hid (GY.out w27 (HK26.out.trans (hb27.mono HK26.out.size))).1
    clear hb27
    go_wp2
    go_ret
    exact ⟨rfl, HF.out⟩
   exact AllReadyH.nil
  exact AllReadyH.nil
 exact AllReadyH.nil
set_option maxRecDepth 100000 in
theorem walk {H : Type} {enc : TypeId × Value → H} {W : World} {base : Nat} {v v' : Value} {d d' : DataW H} {p p' : List MemPlace}
  (hval : Value.okWide Tryz.prog W .any base 28 v) (hd : DataW.Trod enc Tryz.prog W 0 (fun _ => true) true 28 v d p) (_hlt : ∀ x ∈ p, x.block < W.heap.size) (op : Int) (hx : (Lit.int .i64 op).wf = true)
  (hval' : Value.okWide Tryz.prog W .any base 29 v') (hd' : DataW.Trod enc Tryz.prog W 0 (fun _ => true) true 29 v' d' p') (_hlt' : ∀ x ∈ p', x.block < W.heap.size) :
  Calls Tryz.prog 3 #[v, .int .i64 op, v'] W fun e w' => e = .returned (.bool true) ∧ Below W.heap.size W w' := by
 obtain ⟨va, vb, vc, P, Q, O, rfl, h⟩ := sigo.has_sig hval hd
 obtain ⟨n, L, ht⟩ := termop.has_terms hval' hd'
 exact go P Q O va vb vc op ⟨(sorto.i64_bounds hx).1, (sorto.i64_bounds hx).2⟩ L v' W h ht
end Go.Proofs.YtkkmjaggebjcbaaGreat.fnExactMakeTerm
