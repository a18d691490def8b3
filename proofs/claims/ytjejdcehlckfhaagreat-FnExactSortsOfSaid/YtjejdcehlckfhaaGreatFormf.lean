/-
  THE MODEL's CANONICAL FORM: l6Form.
-/
import Derived.Test.YtjejdcehlckfhaaGreatFormr
namespace Go.Proofs.YtjejdcehlckfhaaGreat.formf
open Go.ChangeShapes Go.WideShapes Go.ChangeAt Go.RowKit
open mem dec setm sets sortm sortn sortp sorti sortu sortg sigm sigs sigt sigl rowl trm trmv terml termb termt termx termz termro termsd termv termvr termvo termev frm termlm sigi sigj sigk gram gramo graml gramk gramc gramn gramt grami formlf formnd formk formr

/-- what the model asks of each node -/
def FormN (P : List (List UInt8)) (Q : List (Int × Int)) (O : List OpM) (t : TermM) : Prop := NodeS P O t ∧ (t.op ≠ -1 → RightS (κK P.length Q) O t.op.toNat t.args)
abbrev FormS (P : List (List UInt8)) (Q : List (Int × Int)) (O : List OpM) : TermM → Prop := allN (FormN P Q O)
theorem formS_eta (P : List (List UInt8)) (Q : List (Int × Int)) (O : List OpM) (t : TermM) : FormS P Q O t ↔ NodeS P O t ∧ (∀ a ∈ t.args, FormS P Q O a) ∧ (t.op ≠ -1 → RightS (κK P.length Q) O t.op.toNat t.args) := by
  unfold FormS
  rw [allN_eta, FormN]
  exact ⟨fun h => ⟨h.1.1, h.2, h.1.2⟩, fun h => ⟨⟨h.1, h.2.2⟩, h.2.1⟩⟩
theorem range_of_node {P : List (List UInt8)} {O : List OpM} {t : TermM} (h : NodeS P O t) : RangeT P O t := by
  unfold NodeS at h
  unfold RangeT
  split
  · rename_i hv
    rw [if_pos hv] at h
    exact h.2.1
  · rename_i hv
    rw [if_neg hv] at h
    exact h.1
def FormC (P : List (List UInt8)) (Q : List (Int × Int)) (O : List OpM) (n : Nat) : Prop := ∀ (va vb vc : Value) (t : TermM) (v : Value) (w : World) (lo : Nat), HasG w va vb vc P Q O → HasTs n lo w v t.args → Bnd t → sizes t.args ≤ 1048576 → ∀ r : Bool, (r = true ↔ FormS P Q O t) →
  Calls Tryz.prog 76 #[.agg #[va, vb, vc], aggT t v] w fun e w' => e = .returned (.bool r) ∧ Below w.heap.size w w'
set_option maxRecDepth 50000 in
set_option maxHeartbeats 8000000 in
theorem formC_step (P : List (List UInt8)) (Q : List (Int × Int)) (O : List OpM) (hok : sigOk P Q O = true) {N : Nat} (hS : ∀ k, N = k + 1 → FormC P Q O k) : FormC P Q O N := by
  intro va vb vc t v w lo h ht hB hsz r hr
  obtain ⟨nb, hnb⟩ : ∃ b : Bool, b = true ↔ NodeS P O t := by
    by_cases hq : NodeS P O t
    · exact ⟨true, fun _ => hq, fun _ => rfl⟩
    · exact ⟨false, fun e => absurd e (by simp), fun e => absurd e hq⟩
  obtain ⟨rb, hrb⟩ : ∃ b : Bool, b = true ↔ RightS (κK P.length Q) O t.op.toNat t.args := by
    by_cases hq : RightS (κK P.length Q) O t.op.toNat t.args
    · exact ⟨true, fun _ => hq, fun _ => rfl⟩
    · exact ⟨false, fun e => absurd e (by simp), fun e => absurd e hq⟩
  rw [formS_eta] at hr
  have hal : t.args.length ≤ 1048576 := by have := sizes_len t.args; omega
  obtain ⟨B, cb, rfl, _⟩ := HasR.shape ht rfl
  have HND : Hid (∀ W, Below w.heap.size w W → Calls Tryz.prog 129 #[.agg #[va, vb, vc], aggT t (.slice B t.args.length cb)] W fun e w' => e = .returned (.bool nb) ∧ Below W.heap.size W w') := Lib.hid (fun W hW => sNode_any P Q O hok va vb vc t _ W (h.below (Nat.le_refl _) hW) (ht.below (Nat.le_refl _) hW) hB hal nb hnb)
  have HRT : Hid (t.op ≠ -1 → NodeS P O t → (∀ a ∈ t.args, FormS P Q O a) → ∀ W, Below w.heap.size w W → Calls Tryz.prog 130 #[.agg #[va, vb, vc], aggT t (.slice B t.args.length cb)] W fun e w' => e = .returned (.bool rb) ∧ Below W.heap.size W w') := Lib.hid (fun hop hnode hargs W hW => by
    have h1 := hnode
    unfold NodeS at h1
    rw [if_neg hop] at h1
    exact sRight_any P Q O hok va vb vc t _ W (h.below (Nat.le_refl _) hW) (ht.below (Nat.le_refl _) hW) hsz t.op.toNat (by omega) (by omega) (fun ha => by
      have h2 := h1.2.2.2
      rw [ha, if_neg (by simp)] at h2
      exact h2) (fun x hx => range_of_node ((formS_eta P Q O x).1 (hargs x hx)).1) rb hrb)
  have HSS : Hid (∀ k, N = k + 1 → ∀ (x : TermM) (vx : Value) (W : World), Below w.heap.size w W → HasTs k lo W vx x.args → Bnd x → sizes x.args ≤ 1048576 → ∀ r : Bool, (r = true ↔ FormS P Q O x) → Calls Tryz.prog 76 #[.agg #[va, vb, vc], aggT x vx] W fun e w' => e = .returned (.bool r) ∧ Below W.heap.size W w') := Lib.hid (fun k e x vx W hW hx hBx hsx r hr => hS k e va vb vc x vx W lo (h.below (Nat.le_refl _) hW) hx hBx hsx r hr)
  obtain ⟨A1, c1, A2, c2, A3, c3, rfl, rfl, rfl, _⟩ := h.shape
  have HH0 := Lib.hid ht
  have HNB := Lib.hid hnb
  have HR := Lib.hid hr
  have HSZ := Lib.hid hsz
  obtain ⟨L, hL⟩ : ∃ L, L = t.args := ⟨_, rfl⟩
  obtain ⟨q, hq⟩ : ∃ q, q = t.args.length := ⟨_, rfl⟩
  obtain ⟨to, hto⟩ : ∃ q, q = t.op := ⟨_, rfl⟩
  obtain ⟨tn, htn⟩ : ∃ q, q = t.name := ⟨_, rfl⟩
  obtain ⟨ts, hts⟩ : ∃ q, q = t.sort := ⟨_, rfl⟩
  obtain ⟨m1, hm1⟩ : ∃ q, q = P.length := ⟨_, rfl⟩
  obtain ⟨m2, hm2⟩ : ∃ q, q = Q.length := ⟨_, rfl⟩
  obtain ⟨m3, hm3⟩ : ∃ q, q = O.length := ⟨_, rfl⟩
  have HRB : Hid (rb = true ↔ RightS (κK P.length Q) O to.toNat L) := Lib.hid (by rw [hto, hL]; exact hrb)
  have HQL : Hid (q = L.length) := Lib.hid (by rw [hq, hL])
  unfold aggT at HND HRT ⊢
  rw [← hq, ← hto, ← htn, ← hts, ← hm1, ← hm2, ← hm3]
  rw [← hq, ← hto, ← htn, ← hts, ← hm1, ← hm2, ← hm3] at HND
  rw [← hq, ← hL, ← hto, ← htn, ← hts, ← hm1, ← hm2, ← hm3] at HRT
  rw [← hm1, ← hm2, ← hm3] at HSS
  rw [← hq, ← hL] at HH0
  rw [← hL, ← hto] at HR
  rw [← hL] at HSZ
  have hq64 : q ≤ 1048576 := by omega
  clear h ht hB hsz hr hnb hrb hal hL hq hto htn hts hm1 hm2 hm3 hS
  obtain ⟨W, hW⟩ : ∃ W, W = (w.alloc (.cells #[.slice A1 m1 c1, .slice A2 m2 c2, .slice A3 m3 c3] 40)).alloc (.cells #[.int .i64 to, .string (bstr tn), .int .i64 ts, .slice B q cb] 44) := ⟨_, rfl⟩
  have hb0 : Below w.heap.size w W := by
    rw [hW]
    repeat (first | exact Below.refl _ _ | refine Below.alloc ?_ (by first | (simp; done) | (simp; omega)) _)
  have hX0 : Box34 w.heap.size (w.heap.size + 1) (.slice A1 m1 c1) (.slice A2 m2 c2) (.slice A3 m3 c3) (.int .i64 to) (.string (bstr tn)) (.int .i64 ts) (.slice B q cb) W := by
    rw [hW]
    exact ⟨box3 (heap2a _ _ _), box4 (heap_at _ _ _ (by simp))⟩
  have hzW : W.heap.size = w.heap.size + 2 := by rw [hW]; simp
  have HX := Lib.hid hX0
  have HB0 := Lib.hid hb0
  have HZ := Lib.hid hzW
  clear hb0 hX0 hzW
  go_enter Tryz.func76, Tryz.ntmps76
  go_wp2_with fail
  rw [← hW]
  clear hW
  refine (HND.out _ HB0.out).mono ?_
  rintro e w1 ⟨rfl, hb1⟩
  have HB1 := Lib.hid (HB0.out.trans (hb1.mono HB0.out.size))
  have HX1 := Lib.hid (Box34.below HX.out hb1)
  have hz1 : w.heap.size + 2 ≤ w1.heap.size := by have := hb1.size; have := HZ.out; omega
  clear hb1
  cases nb with
  | false =>
    have HF : Hid (r = false) := Lib.hid (by cases hrr : r with
      | false => rfl
      | true => exact absurd (HNB.out.2 (HR.out.1 hrr).1) (by simp))
    go_wp2
    go_ret
    exact ⟨ret_bool HF.out.symm, HB1.out⟩
  | true =>
    have HNO : Hid (NodeS P O t) := Lib.hid (HNB.out.1 (by trivial))
    go_wp2
    go_loopw [5] (fun v5 wr => ∃ p : Nat, v5 = .int .i64 p ∧ p ≤ q ∧ Hid (∀ i, i < p → FormS P Q O (L.getD i default)) ∧ Hid (Below w1.heap.size w1 wr)) (fun i _ => q - (intOf i).toNat)
    case atStart => exact ⟨0, rfl, Nat.zero_le _, Lib.hid (fun i hi => absurd hi (Nat.not_lt_zero _)), Lib.hid (Below.refl _ _)⟩
    case round =>
      obtain ⟨p, rfl, hp, HALL, HB⟩ := hrel
      have hbel := HB.out
      have hVr : w1.heap.size ≤ wr.heap.size := hbel.size
      obtain ⟨⟨x0, x1, x2⟩, y0, y1, y2, y3⟩ := Box34.below HX1.out hbel
      have hbw := HB1.out.trans (hbel.mono HB1.out.size)
      have HBW := Lib.hid hbw
      by_cases hlt : p < q
      · have d1 : decide ((p : Int) < (q : Int)) = true := decide_eq_true (by omega)
        have d3 : decide (p < q) = true := decide_eq_true hlt
        obtain ⟨kn, g, o, B2, cx, hNk, rfl, _, hg, e0, e1, e2, e3, hxx, hbx⟩ := term_at HH0.out hlt
        have f0 := (hbw.cell (p := ⟨g, o + p * 4, none⟩) hg).trans e0
        have f1 := (hbw.cell (p := ⟨g, o + p * 4 + 1, none⟩) hg).trans e1
        have f2 := (hbw.cell (p := ⟨g, o + p * 4 + 2, none⟩) hg).trans e2
        have f3 := (hbw.cell (p := ⟨g, o + p * 4 + 3, none⟩) hg).trans e3
        have hsx : sizes (L.getD p default).args ≤ 1048576 := by
          have h9 := size_le_sizes (l := L) (j := p) (by have := HQL.out; omega)
          have h10 := termro.size_eq (L.getD p default)
          have := HSZ.out
          omega
        obtain ⟨x, hx⟩ : ∃ x, x = L.getD p default := ⟨_, rfl⟩
        have HXD := Lib.hid hx
        rw [← hx] at f0 f1 f2 f3 hxx hbx hsx
        obtain ⟨rx, hrx⟩ : ∃ b : Bool, b = true ↔ FormS P Q O x := by
          by_cases hq : FormS P Q O x
          · exact ⟨true, fun _ => hq, fun _ => rfl⟩
          · exact ⟨false, fun e => absurd e (by simp), fun e => absurd e hq⟩
        have HC1 : Hid (∀ t : BoxC (Below wr.heap.size wr), Calls Tryz.prog 76 #[.agg #[.slice A1 m1 c1, .slice A2 m2 c2, .slice A3 m3 c3], .agg #[.int .i64 x.op, .string (bstr x.name), .int .i64 x.sort, .slice B2 x.args.length cx]] t.W fun e w' => e = .returned (.bool rx) ∧ Below t.W.heap.size t.W w') := Lib.hid (fun t => by
          have hbt := hbw.trans (t.h.mono hbw.size)
          exact HSS.out kn hNk x _ t.W hbt (hxx.below (Nat.le_refl _) hbt) hbx hsx rx hrx)
        have kV : ∀ {g y : Nat} {v : Value}, wr.cell? ⟨g, y, none⟩ = some v → ∀ t : BoxC (Below wr.heap.size wr), t.W.cell? ⟨g, y, none⟩ = some v := fun {g y v} h t => t.cell h (block_lt_of_cell h)
        have b0 := kV x0
        have b1 := kV x1
        have b2 := kV x2
        have b3 := kV y3
        have b4 := kV f0
        have b5 := kV f1
        have b6 := kV f2
        have b7 := kV f3
        have nb : Nonempty (BoxC (Below wr.heap.size wr)) := ⟨⟨_, Below.refl _ _⟩⟩
        have i3 : (0 : Int) ≤ (p : Int) := by omega
        have i4 : (p : Int) < (q : Int) := by omega
        have hwr : w.heap.size ≤ wr.heap.size := by omega
        have HRX := Lib.hid hrx
        clear e0 e1 e2 e3 f0 f1 f2 f3 hxx hbx hsx hx hrx hbw hbel kV x0 x1 x2 y0 y1 y2
        cases rx with
        | false =>
          have HF : Hid (r = false) := Lib.hid (by cases hrr : r with
            | false => rfl
            | true => exact absurd (HRX.out.2 ((HR.out.1 hrr).2.1 x (by rw [HXD.out, List.getD_eq_getElem?_getD, List.getElem?_eq_getElem (by have := HQL.out; omega)]; exact List.getElem_mem _))) (by simp))
          go_wp2_with fail
          refine region_boxC (C := Below wr.heap.size wr) (by kernel_rfl) (by kernel_rfl) (Below.refl _ _).drew ?_
          repeat (go_big_quiet_step ((go_at_call 76; exact (HC1.out _).mono (fun _ _ h => ⟨h.1, BoxC.step _ h.2⟩))))
          refine wpQuiet_nil ?_
          rintro w5 ⟨t5, rfl⟩
          have HB6 : Hid (Below w.heap.size w t5.W) := Lib.hid (HBW.out.trans (t5.h.mono hwr))
          clear b0 b1 b2 b3 b4 b5 b6 b7 nb HC1 y3
          go_wp2
          go_ret
          exact ⟨ret_bool HF.out.symm, HB6.out⟩
        | true =>
          have HA : Hid (∀ i, i < p + 1 → FormS P Q O (L.getD i default)) := Lib.hid (fun i hi => by
            by_cases e : i = p
            · subst e; rw [← HXD.out]; exact HRX.out.1 (by trivial)
            · exact HALL.out i (by omega))
          go_wp2_with fail
          refine region_boxC (C := Below wr.heap.size wr) (by kernel_rfl) (by kernel_rfl) (Below.refl _ _).drew ?_
          repeat (go_big_quiet_step ((go_at_call 76; exact (HC1.out _).mono (fun _ _ h => ⟨h.1, BoxC.step _ h.2⟩))))
          refine wpQuiet_nil ?_
          rintro w5 ⟨t5, rfl⟩
          have HB6 : Hid (Below w1.heap.size w1 t5.W) := Lib.hid (HB.out.trans (t5.h.mono hVr))
          clear b0 b1 b2 b3 b4 b5 b6 b7 nb HC1 y3
          go_wp2
          go_roundw
          case measure => simp [intOf]; omega
          case rel => exact ⟨p + 1, by go_num, by omega, HA, HB6⟩
      · have d1 : decide ((p : Int) < (q : Int)) = false := decide_eq_false (by omega)
        have d3 : decide (p < q) = false := decide_eq_false hlt
        have HAA : Hid (∀ a ∈ L, FormS P Q O a) := Lib.hid (fun a ha => by
          obtain ⟨i, hi, rfl⟩ := List.getElem_of_mem ha
          have := HALL.out i (by have := HQL.out; omega)
          rw [List.getD_eq_getElem?_getD, List.getElem?_eq_getElem hi] at this
          exact this)
        by_cases hv : to = -1
        · have HT : Hid (r = true) := Lib.hid (HR.out.2 ⟨HNO.out, HAA.out, fun e => absurd hv e⟩)
          subst hv
          clear hbel hbw
          go_wp2
          go_ret
          exact ⟨ret_bool HT.out.symm, HBW.out⟩
        · have HRR : Hid (r = rb) := Lib.hid (by
            rw [Bool.eq_iff_iff, HR.out, HRB.out]
            exact ⟨fun e => e.2.2 hv, fun e => ⟨HNO.out, HAA.out, fun _ => e⟩⟩)
          have HRC := Lib.hid (HRT.out hv HNO.out HAA.out wr hbw)
          have v1 : (to == -1) = false := by simp [hv]
          have v2 : decide (to = -1) = false := decide_eq_false hv
          clear hbel hbw
          go_wp2_with fail
          refine HRC.out.mono ?_
          rintro e w5 ⟨rfl, hb5⟩
          have HB6 : Hid (Below w.heap.size w w5) := Lib.hid (HBW.out.trans (hb5.mono HBW.out.size))
          clear hb5 x0 x1 x2 y0 y1 y2 y3
          go_wp2
          go_ret
          exact ⟨ret_bool HRR.out.symm, HB6.out⟩
theorem form_all (P : List (List UInt8)) (Q : List (Int × Int)) (O : List OpM) (hok : sigOk P Q O = true) : ∀ n, FormC P Q O n
  | 0 => formC_step P Q O hok (fun k h => by omega)
  | n + 1 => formC_step P Q O hok (fun k h => Nat.succ.inj h ▸ form_all P Q O hok n)
end Go.Proofs.YtjejdcehlckfhaaGreat.formf
