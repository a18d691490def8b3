/-
  Formt, Formm, merged.
-/
import Derived.Test.YtjejdcehlckfhaaGreatFormf
import Derived.Test.YtjejdcehlckfhaaGreatSigb
/-
  spec.IsTerm.
-/
namespace Go.Proofs.YtjejdcehlckfhaaGreat.formt
open Go.ChangeShapes Go.WideShapes Go.ChangeAt Go.RowKit
open mem dec setm sets sortm sortn sortp sorti sortu sortg sigm sigs sigt sigl sigb rowl trm trmv terml termb termt termx termz termro termsd termv termvr termvo termev frm termlm sigi sigj sigk gram gramo graml gramk gramc gramn gramt grami formlf formnd formk formr formf

/-- what the model calls a term -/
def STerm (P : List (List UInt8)) (Q : List (Int × Int)) (O : List OpM) (t : TermM) : Prop := sigOk P Q O = true ∧ (size t ≤ 60 ∧ depth t ≤ 20) ∧ FormS P Q O t
set_option maxRecDepth 50000 in
set_option maxHeartbeats 8000000 in
/-- spec.IsTerm -/
theorem sIsTerm_any {N lo : Nat} (P : List (List UInt8)) (Q : List (Int × Int)) (O : List OpM) (va vb vc : Value) (t : TermM) (ve : Value) (w : World) (h : HasG w va vb vc P Q O) (ht : HasTs N lo w ve t.args) (hB : Bnd t) (hsz : sizes t.args ≤ 1048576) (r : Bool) (hr : r = true ↔ STerm P Q O t) :
    Calls Tryz.prog 35 #[.agg #[va, vb, vc], aggT t ve] w fun e w' => e = .returned (.bool r) ∧ Below w.heap.size w w' := by
  obtain ⟨sb, hsb⟩ : ∃ b, sigOk P Q O = b := ⟨_, rfl⟩
  obtain ⟨fb, hfb⟩ : ∃ b : Bool, b = true ↔ FormS P Q O t := by
    by_cases hq : FormS P Q O t
    · exact ⟨true, fun _ => hq, fun _ => rfl⟩
    · exact ⟨false, fun e => absurd e (by simp), fun e => absurd e hq⟩
  have HSI := Lib.hid (fun W (hW : Below w.heap.size w W) => sIsSig_any P Q O va vb vc sb hsb W (h.below (Nat.le_refl _) hW))
  have HSM := Lib.hid (fun W (hW : Below w.heap.size w W) => small_any t ve W (ht.below (Nat.le_refl _) hW) hsz)
  have HFO : Hid (sb = true → ∀ W, Below w.heap.size w W → Calls Tryz.prog 76 #[.agg #[va, vb, vc], aggT t ve] W fun e w' => e = .returned (.bool fb) ∧ Below W.heap.size W w') := Lib.hid (fun hs W hW => form_all P Q O (hsb.trans hs) N va vb vc t ve W lo (h.below (Nat.le_refl _) hW) (ht.below (Nat.le_refl _) hW) hB hsz fb hfb)
  obtain ⟨B, cb, rfl, _⟩ := HasR.shape ht rfl
  obtain ⟨A1, c1, A2, c2, A3, c3, rfl, rfl, rfl, _⟩ := h.shape
  have HR : Hid (r = true ↔ sb = true ∧ (size t ≤ 60 ∧ depth t ≤ 20) ∧ fb = true) := Lib.hid (by rw [hr, STerm, hsb, hfb])
  unfold aggT at HSM HFO ⊢
  obtain ⟨q, hq⟩ : ∃ q, q = t.args.length := ⟨_, rfl⟩
  obtain ⟨tq, hto⟩ : ∃ q, q = t.op := ⟨_, rfl⟩
  obtain ⟨tn, htn⟩ : ∃ q, q = t.name := ⟨_, rfl⟩
  obtain ⟨ts, hts⟩ : ∃ q, q = t.sort := ⟨_, rfl⟩
  obtain ⟨m1, hm1⟩ : ∃ q, q = P.length := ⟨_, rfl⟩
  obtain ⟨m2, hm2⟩ : ∃ q, q = Q.length := ⟨_, rfl⟩
  obtain ⟨m3, hm3⟩ : ∃ q, q = O.length := ⟨_, rfl⟩
  obtain ⟨sm, hsm⟩ : ∃ p : Prop, p = (size t ≤ 60 ∧ depth t ≤ 20) := ⟨_, rfl⟩
  rw [← hq, ← hto, ← htn, ← hts, ← hm1, ← hm2, ← hm3]
  rw [← hq, ← hto, ← htn, ← hts, ← hsm] at HSM
  rw [← hq, ← hto, ← htn, ← hts, ← hm1, ← hm2, ← hm3] at HFO
  rw [← hm1, ← hm2, ← hm3] at HSI
  rw [← hsm] at HR
  clear h ht hB hsz hr hsb hfb hq hto htn hts hm1 hm2 hm3 hsm
  obtain ⟨W, hW⟩ : ∃ W, W = (w.alloc (.cells #[.slice A1 m1 c1, .slice A2 m2 c2, .slice A3 m3 c3] 40)).alloc (.cells #[.int .i64 tq, .string (bstr tn), .int .i64 ts, .slice B q cb] 44) := ⟨_, rfl⟩
  have hb0 : Below w.heap.size w W := by
    rw [hW]
    repeat (first | exact Below.refl _ _ | refine Below.alloc ?_ (by first | (simp; done) | (simp; omega)) _)
  have hX0 : Box34 w.heap.size (w.heap.size + 1) (.slice A1 m1 c1) (.slice A2 m2 c2) (.slice A3 m3 c3) (.int .i64 tq) (.string (bstr tn)) (.int .i64 ts) (.slice B q cb) W := by
    rw [hW]
    exact ⟨box3 (heap2a _ _ _), box4 (heap_at _ _ _ (by simp))⟩
  have HX := Lib.hid hX0
  have HB0 := Lib.hid hb0
  clear hb0 hX0
  go_enter Tryz.func35, Tryz.ntmps35
  go_wp2_with fail
  rw [← hW]
  clear hW
  refine (HSI.out _ HB0.out).mono ?_
  rintro e w1 ⟨rfl, hb1⟩
  have HB1 := Lib.hid (HB0.out.trans (hb1.mono HB0.out.size))
  have HX1 := Lib.hid (Box34.below HX.out hb1)
  clear hb1
  cases sb with
  | false =>
    have HF : Hid (r = false) := Lib.hid (by cases hrr : r with
      | false => rfl
      | true => exact absurd (HR.out.1 hrr).1 (by simp))
    go_wp2
    go_ret
    exact ⟨ret_bool HF.out.symm, HB1.out⟩
  | true =>
    obtain ⟨⟨x0, x1, x2⟩, y0, y1, y2, y3⟩ := HX1.out
    go_wp2_with fail
    refine (HSM.out _ HB1.out).mono ?_
    rintro e w2 ⟨r2, rfl, hr2, hb2⟩
    have HB2 := Lib.hid (HB1.out.trans (hb2.mono HB1.out.size))
    have HX2 := Lib.hid (Box34.below HX1.out hb2)
    have HR2 := Lib.hid hr2
    clear hb2 hr2 x0 x1 x2 y0 y1 y2 y3
    cases r2 with
    | false =>
      have HF : Hid (r = false) := Lib.hid (by cases hrr : r with
        | false => rfl
        | true => exact absurd (HR2.out.2 (HR.out.1 hrr).2.1) (by simp))
      go_wp2
      go_ret
      exact ⟨ret_bool HF.out.symm, HB2.out⟩
    | true =>
      have HF : Hid (r = fb) := Lib.hid (by
        rw [Bool.eq_iff_iff, HR.out]
        exact ⟨fun e => e.2.2, fun e => ⟨by trivial, HR2.out.1 (by trivial), e⟩⟩)
      obtain ⟨⟨x0, x1, x2⟩, y0, y1, y2, y3⟩ := HX2.out
      go_wp2_with fail
      refine (HFO.out (by trivial) _ HB2.out).mono ?_
      rintro e w3 ⟨rfl, hb3⟩
      have HB3 := Lib.hid (HB2.out.trans (hb3.mono HB2.out.size))
      clear hb3 x0 x1 x2 y0 y1 y2 y3
      go_wp2
      go_ret
      exact ⟨ret_bool HF.out.symm, HB3.out⟩
end Go.Proofs.YtjejdcehlckfhaaGreat.formt
/-
  THE PROGRAM's TERMS ARE THE MODEL's: mathematics alone.
-/
namespace Go.Proofs.YtjejdcehlckfhaaGreat.formm
open mem dec setm sets sortm sortn sortp sorti sortf sortu sortg sigm sigs sigt sigl rowl trm trmv terml termb termt termx termz termro termsd termvr termvo termev frm termlm sigi sigj sigk gram gramo graml gramk gramc gramn gramt grami formlf formnd formk formr formf

section
variable {P : List (List UInt8)} {Q : List (Int × Int)} {O : List OpM}
theorem kU_kK (hok : sigOk P Q O = true) {x y : Int} (hx : inN P.length x = true) (hy : inN P.length y = true) : κU (kindsU P Q) x = κU (kindsU P Q) y ↔ κK P.length Q x = κK P.length Q y := by
  have hS := (sigOk_parts hok).1
  have e : ∀ z, κU (kindsU P Q) z = κC P.length Q z := fun z => by unfold κU κC kindsU; rw [if_pos hS]
  rw [e, e]
  exact alike_CK (okS_parts hS).2.2.1 x y hx hy
theorem op_mem {k : Nat} (h : k < O.length) : O.getD k default ∈ O := by rw [List.getD_eq_getElem?_getD, List.getElem?_eq_getElem h]; exact List.getElem_mem _
theorem hd_ok (hok : sigOk P Q O = true) {k : Nat} (h : k < O.length) : okD P.length (hd0 (O.getD k default).decls) = true := by
  obtain ⟨_, _, _, hd, _⟩ := sigOk_parts hok
  exact (declsOk_parts (hd _ (op_mem h))).2.2.2
theorem grM_ok (hok : sigOk P Q O = true) : grM P Q O = ⟨kindsU P Q, opsE O (shps (κU (kindsU P Q)) O)⟩ := by unfold grM; rw [if_pos hok]
theorem grU_len (hok : sigOk P Q O = true) : (kindsU P Q).length = P.length := by rw [kindsU_len, if_pos (sigOk_parts hok).1]
theorem grE_at (hok : sigOk P Q O = true) {k : Nat} (h : k < O.length) : (grM P Q O).E.getD k default = (O.getD k default, k, shp (κU (kindsU P Q)) (hd0 (O.getD k default).decls)) := by
  rw [grM_ok hok]
  show (opsE O _).getD k default = _
  rw [opsE_at O _ h, shps_get _ O k h]
theorem srt_in (hok : sigOk P Q O = true) {x : TermM} (h : RangeT P O x) : inN P.length (srtT O x) = true := by
  unfold RangeT at h
  unfold srtT
  split
  · rename_i hv
    rw [if_pos hv] at h
    exact decide_eq_true h
  · rename_i hv
    rw [if_neg hv] at h
    obtain ⟨k, hk⟩ : ∃ k : Nat, x.op = (k : Int) := ⟨x.op.toNat, by omega⟩
    rw [hk, Int.toNat_natCast]
    exact (okD_parts (hd_ok hok (by omega))).2.1
theorem gKind_eq (hok : sigOk P Q O = true) {x : TermM} (h : RangeT P O x) : gKind (grM P Q O) x = κU (kindsU P Q) (srtT O x) := by
  have hin := srt_in hok h
  unfold RangeT at h
  unfold gKind srtT at *
  by_cases hv : x.op = -1
  · rw [if_pos hv] at h hin ⊢
    rw [if_pos hv, grM_ok hok]
    exact κU_at (by rw [grU_len hok]; exact hin)
  · rw [if_neg hv] at h hin ⊢
    rw [if_neg hv]
    obtain ⟨k, hk⟩ : ∃ k : Nat, x.op = (k : Int) := ⟨x.op.toNat, by omega⟩
    have hk' : k < O.length := by omega
    have hE : (grM P Q O).E.length = O.length := by rw [grM_ok hok]; exact opsE_len _ _
    rw [hE, if_pos h, hk, Int.toNat_natCast, grE_at hok hk']
    rfl
theorem kAt_eq (hok : sigOk P Q O = true) {k i : Nat} (h : k < O.length) (hi : atS (O.getD k default).ass i < (hd0 (O.getD k default).decls).1.length) :
    kAtS (O.getD k default).ass (shp (κU (kindsU P Q)) (hd0 (O.getD k default).decls)) i = κU (kindsU P Q) ((hd0 (O.getD k default).decls).1.getD (atS (O.getD k default).ass i) 0) := by
  have h3 := (okD_parts (hd_ok hok h)).1
  cases ha : (O.getD k default).ass with
  | true =>
    rw [ha] at hi
    have h0 : 0 < (hd0 (O.getD k default).decls).1.length := hi
    show pl (κU (kindsU P Q)) (hd0 (O.getD k default).decls).1 0 = _
    rw [pl, if_pos h0]
    rfl
  | false =>
    rw [ha] at hi
    have hi' : i < (hd0 (O.getD k default).decls).1.length := hi
    match i, hi' with
    | 0, hi' =>
      show pl (κU (kindsU P Q)) (hd0 (O.getD k default).decls).1 0 = _
      rw [pl, if_pos hi']
      rfl
    | 1, hi' =>
      show pl (κU (kindsU P Q)) (hd0 (O.getD k default).decls).1 1 = _
      rw [pl, if_pos hi']
      rfl
    | 2, hi' =>
      show pl (κU (kindsU P Q)) (hd0 (O.getD k default).decls).1 2 = _
      rw [pl, if_pos hi']
      rfl
    | n + 3, hi' => omega
theorem unit_eq (hok : sigOk P Q O = true) {k : Nat} (hk : k < O.length) {a : TermM} (ha : NodeS P O a) (hu : (O.getD k default).unt ≠ 0) (ho : a.op = (O.getD k default).unt - 1) : a = unitT (O.getD k default).unt := by
  obtain ⟨_, _, _, _, hx⟩ := sigOk_parts hok
  have h1 := hx _ (op_mem hk)
  simp only [axOk, unitOk, Bool.and_eq_true, Bool.or_eq_true, decide_eq_true_eq] at h1
  obtain ⟨⟨h2, h3⟩, _⟩ := h1.2.resolve_left hu
  obtain ⟨u, hu'⟩ : ∃ u, u = (O.getD k default).unt := ⟨_, rfl⟩
  unfold unitOf at h3
  rw [← hu'] at hu ho h2 h3 ⊢
  obtain ⟨j, hj⟩ : ∃ j : Nat, u = (j : Int) + 1 := ⟨(u - 1).toNat, by omega⟩
  have hjl : j < O.length := by omega
  rw [show u.toNat - 1 = j by omega] at h3
  have h4 := hx _ (op_mem hjl)
  simp only [axOk, argsOk, Bool.and_eq_true, Bool.or_eq_true, decide_eq_true_eq, Bool.not_eq_true'] at h4
  have hass : (O.getD j default).ass = false := by
    rcases h4.1 with h5 | h5
    · exact h5.1.1
    · omega
  have hoj : a.op = (j : Int) := by omega
  unfold NodeS at ha
  rw [if_neg (by omega), hoj, Int.toNat_natCast, if_neg (by rw [hass]; simp), h3] at ha
  obtain ⟨_, q1, q2, q3⟩ := ha
  cases a with
  | mk op nm st l =>
    have e1 : op = u - 1 := ho
    have e2 : nm = [] := q1
    have e3 : st = 0 := q2
    have e4 : l = [] := List.eq_nil_of_length_eq_zero q3
    rw [e1, e2, e3, e4, unitT, if_neg hu]
theorem right_iff (hok : sigOk P Q O = true) {k : Nat} (hk : k < O.length) (L : List TermM) (hA : ∀ a ∈ L, NodeS P O a) (hnum : (O.getD k default).ass = false → L.length = ar (O.getD k default)) :
    ((∀ i, i < L.length → gKind (grM P Q O) (L.getD i default) = kAtS (O.getD k default).ass (shp (κU (kindsU P Q)) (hd0 (O.getD k default).decls)) i) ∧ leafB (O.getD k default, k, shp (κU (kindsU P Q)) (hd0 (O.getD k default).decls)) L (decide (Srt L)) = true) ↔ RightS (κK P.length Q) O k L := by
  obtain ⟨_, _, _, _, hx⟩ := sigOk_parts hok
  have h4 := hx _ (op_mem hk)
  simp only [axOk, argsOk, Bool.and_eq_true, Bool.or_eq_true, decide_eq_true_eq, Bool.not_eq_true'] at h4
  have hat : ∀ i, i < L.length → atS (O.getD k default).ass i < (hd0 (O.getD k default).decls).1.length := fun i hi => by
    cases ha : (O.getD k default).ass with
    | false =>
      have h5 := hnum ha
      show i < ar (O.getD k default)
      omega
    | true =>
      have h5 : ar (O.getD k default) = 2 := by
        rcases h4.1 with h5 | h5
        · rw [ha] at h5; exact absurd h5.1.1 (by simp)
        · exact h5.1.1
      have h6 : (hd0 (O.getD k default).decls).1.length = 2 := h5
      rw [h6]
      exact Nat.zero_lt_two
  have hmem : ∀ i, i < L.length → L.getD i default ∈ L := fun i hi => by rw [List.getD_eq_getElem?_getD, List.getElem?_eq_getElem hi]; exact List.getElem_mem _
  have hidx : ∀ a ∈ L, ∃ i, i < L.length ∧ L.getD i default = a := fun a ha => by
    obtain ⟨i, hi, e⟩ := List.getElem_of_mem ha
    exact ⟨i, hi, by rw [List.getD_eq_getElem?_getD, List.getElem?_eq_getElem hi]; exact e⟩
  have hkind : ∀ i, i < L.length → (gKind (grM P Q O) (L.getD i default) = kAtS (O.getD k default).ass (shp (κU (kindsU P Q)) (hd0 (O.getD k default).decls)) i ↔ κK P.length Q (srtT O (L.getD i default)) = κK P.length Q ((hd0 (O.getD k default).decls).1.getD (atS (O.getD k default).ass i) 0)) := fun i hi => by
    have hR := range_of_node (hA _ (hmem i hi))
    rw [gKind_eq hok hR, kAt_eq hok hk (hat i hi)]
    exact kU_kK hok (srt_in hok hR) ((okD_parts (hd_ok hok hk)).2.2 _ (hat i hi))
  have hleaf : leafB (O.getD k default, k, shp (κU (kindsU P Q)) (hd0 (O.getD k default).decls)) L (decide (Srt L)) = true ↔ (∀ a ∈ L, ¬ ((O.getD k default).unt ≠ 0 ∧ a.op = (O.getD k default).unt - 1)) ∧ (∀ a ∈ L, ¬ ((O.getD k default).ass = true ∧ a.op = (k : Int))) ∧ ((O.getD k default).com = true → Srt L) := by
    simp only [leafB, isUB, isAB, Bool.and_eq_true, Bool.not_eq_true', List.any_eq_false, Bool.or_eq_true, decide_eq_true_eq]
    constructor
    · rintro ⟨⟨q1, q2⟩, q3⟩
      refine ⟨q1, q2, fun hc => ?_⟩
      rcases q3 with q3 | q3
      · rw [hc] at q3; cases q3
      · exact q3
    · rintro ⟨q1, q2, q3⟩
      refine ⟨⟨q1, q2⟩, ?_⟩
      cases hc : (O.getD k default).com with
      | false => exact .inl rfl
      | true => exact .inr (q3 hc)
  rw [hleaf, srt_adj]
  unfold RightS RightAt
  constructor
  · rintro ⟨p1, p2, p3, p4⟩ i hi
    refine ⟨(hkind i hi).1 (p1 i hi), p3 _ (hmem i hi), fun hc => p2 _ (hmem i hi) ⟨hc.1, ?_⟩, fun hc h0 => ?_⟩
    · have := (cmp_zero _ _).1 hc.2
      rw [this, unitT, if_neg hc.1]
      rfl
    · have := p4 hc (i - 1) (by omega)
      rw [show i - 1 + 1 = i by omega] at this
      exact this
  · intro h
    refine ⟨fun i hi => (hkind i hi).2 (h i hi).1, fun a ha hc => ?_, fun a ha hc => ?_, fun hc i hi => ?_⟩
    · obtain ⟨i, hi, e⟩ := hidx a ha
      refine (h i hi).2.2.1 ⟨hc.1, ?_⟩
      rw [e]
      exact (cmp_zero _ _).2 (unit_eq hok hk (hA a ha) hc.1 hc.2)
    · obtain ⟨i, hi, e⟩ := hidx a ha
      exact (h i hi).2.1 (by rw [e]; exact hc)
    · have := (h (i + 1) hi).2.2.2 hc (by omega)
      rw [show i + 1 - 1 = i by omega] at this
      exact this
theorem node_iff (hok : sigOk P Q O = true) (t : TermM) (hA : ∀ a ∈ t.args, NodeS P O a) : (t.args.length ≤ 7 ∧ NodeP (grM P Q O) t) ↔ FormN P Q O t := by
  have hU : (grM P Q O).U.length = P.length := by rw [grM_ok hok]; exact grU_len hok
  have hE : (grM P Q O).E.length = O.length := by rw [grM_ok hok]; exact opsE_len _ _
  unfold NodeP FormN NodeS
  by_cases hv : t.op = -1
  · rw [if_pos hv, if_pos hv]
    simp only [varB, Bool.and_eq_true, decide_eq_true_eq, hU]
    constructor
    · rintro ⟨_, ⟨q1, q2⟩, q3⟩
      exact ⟨⟨q1, q2, q3⟩, fun e => absurd hv e⟩
    · rintro ⟨⟨q1, q2, q3⟩, _⟩
      exact ⟨by omega, ⟨q1, q2⟩, q3⟩
  · rw [if_neg hv, if_neg hv]
    by_cases hr : 0 ≤ t.op ∧ t.op < O.length
    · obtain ⟨k, hk⟩ : ∃ k : Nat, t.op = (k : Int) := ⟨t.op.toNat, by omega⟩
      have hkl : k < O.length := by omega
      unfold CanP
      rw [hE, hk, Int.toNat_natCast, grE_at hok hkl]
      have h3 := (okD_parts (hd_ok hok hkl)).1
      have htk : takesB (O.getD k default, k, shp (κU (kindsU P Q)) (hd0 (O.getD k default).decls)) t.args.length = true ↔ if (O.getD k default).ass = true then 2 ≤ t.args.length else t.args.length = ar (O.getD k default) := by
        unfold takesB
        split
        · rw [decide_eq_true_iff]
        · rw [decide_eq_true_iff]; rfl
      rw [htk]
      have hri := right_iff hok hkl t.args hA
      simp only [plainB, decide_eq_true_eq]
      cases ha : (O.getD k default).ass with
      | true =>
        rw [ha] at hri
        simp only [if_true]
        constructor
        · rintro ⟨q0, ⟨q1, q2⟩, ⟨_, q3, q4⟩, q5⟩
          exact ⟨⟨by omega, q1, q2, q3, q0⟩, fun _ => (hri (fun e => by cases e)).1 ⟨q4, q5⟩⟩
        · rintro ⟨⟨_, q1, q2, q3, q0⟩, q4⟩
          have q5 := (hri (fun e => by cases e)).2 (q4 (by omega))
          exact ⟨q0, ⟨q1, q2⟩, ⟨by omega, q3, q5.1⟩, q5.2⟩
      | false =>
        rw [ha] at hri
        simp only [Bool.false_eq_true, if_false]
        have h3' : ar (O.getD k default) ≤ 3 := h3
        constructor
        · rintro ⟨q0, ⟨q1, q2⟩, ⟨_, q3, q4⟩, q5⟩
          exact ⟨⟨by omega, q1, q2, q3⟩, fun _ => (hri (fun _ => q3)).1 ⟨q4, q5⟩⟩
        · rintro ⟨⟨_, q1, q2, q3⟩, q4⟩
          have q5 := (hri (fun _ => q3)).2 (q4 (by omega))
          exact ⟨by omega, ⟨q1, q2⟩, ⟨by omega, q3, q5.1⟩, q5.2⟩
    · constructor
      · rintro ⟨_, _, ⟨q, _⟩, _⟩
        rw [hE] at q
        exact absurd q hr
      · rintro ⟨⟨q, _⟩, _⟩
        exact absurd q hr
theorem all_iff (hok : sigOk P Q O = true) : ∀ t, (wide t ∧ allN (NodeP (grM P Q O)) t) ↔ FormS P Q O t := by
  refine TermM.ind (fun o n s l ih => ?_)
  unfold wide FormS
  rw [allN_mk, allN_mk, allN_mk]
  have hn := fun hA => node_iff hok (.mk o n s l) hA
  constructor
  · rintro ⟨⟨p1, p2⟩, p3, p4⟩
    have h1 : ∀ a ∈ l, FormS P Q O a := fun a ha => (ih a ha).1 ⟨p2 a ha, p4 a ha⟩
    exact ⟨(hn (fun a ha => ((formS_eta P Q O a).1 (h1 a ha)).1)).1 ⟨p1, p3⟩, h1⟩
  · rintro ⟨p1, p2⟩
    have h1 := (hn (fun a ha => ((formS_eta P Q O a).1 (p2 a ha)).1)).2 p1
    exact ⟨⟨h1.1, fun a ha => ((ih a ha).2 (p2 a ha)).1⟩, h1.2, fun a ha => ((ih a ha).2 (p2 a ha)).2⟩
/-- the program's terms are the model's -/
theorem gterm_iff (t : TermM) : GTerm (grM P Q O) t ↔ sigOk P Q O = true ∧ (size t ≤ 60 ∧ depth t ≤ 20) ∧ FormS P Q O t := by
  by_cases hok : sigOk P Q O = true
  · rw [← all_iff hok t, GTerm, LimT]
    exact ⟨fun h => ⟨hok, ⟨h.1.1, h.1.2.1⟩, h.1.2.2, h.2⟩, fun h => ⟨⟨h.2.1.1, h.2.1.2, h.2.2.1⟩, h.2.2.2⟩⟩
  · constructor
    · rintro ⟨_, h⟩
      have h1 := ((allN_eta _ t).1 h).1
      have hg : grM P Q O = ⟨[], []⟩ := by unfold grM; rw [if_neg hok]
      rw [hg, NodeP] at h1
      split at h1
      · simp only [varB, Bool.and_eq_true, decide_eq_true_eq, List.length_nil] at h1
        omega
      · have := h1.2.1.1
        simp only [List.length_nil] at this
        omega
    · intro h
      exact absurd h.1 hok
end
end Go.Proofs.YtjejdcehlckfhaaGreat.formm
