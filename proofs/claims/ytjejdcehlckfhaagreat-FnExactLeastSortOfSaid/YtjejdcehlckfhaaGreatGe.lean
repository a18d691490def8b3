/-
  Formnd, Formk, merged.
-/
import Derived.Test.YtjejdcehlckfhaaGreatGx
import Derived.Test.YtjejdcehlckfhaaGreatSigl
/-
  THE MODEL's NODE: l6Node.
-/
namespace Go.Proofs.YtjejdcehlckfhaaGreat.formnd
open Go.ChangeShapes Go.WideShapes Go.ChangeAt Go.RowKit
open mem dec setm sets sortm sortn sortp sorti sigm sigs sigt sigl rowl trm trmv terml termb termt termx termz termro termsd termvr termev frm termlm sigi sigj sigk gram gramo graml gramk gramc gramn gramt grami

/-- what the model asks of a node -/
def NodeS (P : List (List UInt8)) (O : List OpM) (t : TermM) : Prop := if t.op = -1 then nameOk t.name = true ∧ (0 ≤ t.sort ∧ t.sort < P.length) ∧ t.args.length = 0
  else (0 ≤ t.op ∧ t.op < O.length) ∧ t.name = [] ∧ t.sort = 0 ∧ if (O.getD t.op.toNat default).ass = true then 2 ≤ t.args.length ∧ t.args.length ≤ 7 else t.args.length = ar (O.getD t.op.toNat default)
set_option maxRecDepth 50000 in
set_option maxHeartbeats 8000000 in
theorem sNode_any {N lo : Nat} (P : List (List UInt8)) (Q : List (Int × Int)) (O : List OpM) (hok : sigOk P Q O = true) (va vb vc : Value) (t : TermM) (ve : Value) (w : World) (h : HasG w va vb vc P Q O) (ht : HasTs N lo w ve t.args) (hB : Bnd t) (hal : t.args.length ≤ 1048576) (r : Bool) (hr : r = true ↔ NodeS P O t) :
    Calls Tryz.prog 129 #[.agg #[va, vb, vc], aggT t ve] w fun e w' => e = .returned (.bool r) ∧ Below w.heap.size w w' := by
  obtain ⟨hS, h14, _, hd, _⟩ := sigOk_parts hok
  have hP : P.length ≤ 8 := (okS_parts hS).2.1
  obtain ⟨B, cb, rfl, _⟩ := HasR.shape ht rfl
  obtain ⟨A1, c1, A2, c2, A3, c3, rfl, rfl, rfl, _, _, _, h'⟩ := h.shape
  unfold aggT
  unfold NodeS at hr
  obtain ⟨q, hq⟩ : ∃ q, q = t.args.length := ⟨_, rfl⟩
  obtain ⟨to, hto⟩ : ∃ q, q = t.op := ⟨_, rfl⟩
  obtain ⟨tn, htn⟩ : ∃ q, q = t.name := ⟨_, rfl⟩
  obtain ⟨ts, hts⟩ : ∃ q, q = t.sort := ⟨_, rfl⟩
  obtain ⟨m1, hm1⟩ : ∃ q, q = P.length := ⟨_, rfl⟩
  obtain ⟨m2, hm2⟩ : ∃ q, q = Q.length := ⟨_, rfl⟩
  obtain ⟨m3, hm3⟩ : ∃ q, q = O.length := ⟨_, rfl⟩
  obtain ⟨hb1, hb2, hb3⟩ := hB
  rw [← hto] at hb2
  rw [← htn] at hb1
  rw [← hts] at hb3
  rw [← hq] at hal
  rw [← hm3] at h14
  rw [← hm1] at hP
  rw [← hq, ← hto, ← htn, ← hts, ← hm1, ← hm2, ← hm3]
  rw [← hq, ← hto, ← htn, ← hts, ← hm1, ← hm3] at hr
  have HO : Hid (HasO 0 w (.slice A3 m3 c3) O) := Lib.hid (by rw [hm3]; exact h'.o)
  have HD := Lib.hid hd
  have HM3 := Lib.hid hm3
  have HR := Lib.hid hr
  clear h h' ht hq hto htn hts hm1 hm2 hm3 hok hS hd
  obtain ⟨W, hW⟩ : ∃ W, W = (w.alloc (.cells #[.slice A1 m1 c1, .slice A2 m2 c2, .slice A3 m3 c3] 40)).alloc (.cells #[.int .i64 to, .string (bstr tn), .int .i64 ts, .slice B q cb] 44) := ⟨_, rfl⟩
  have hb0 : Below w.heap.size w W := by
    rw [hW]
    repeat (first | exact Below.refl _ _ | refine Below.alloc ?_ (by first | (simp; done) | (simp; omega)) _)
  obtain ⟨⟨x0, x1, x2⟩, y0, y1, y2, y3⟩ : Box34 w.heap.size (w.heap.size + 1) (.slice A1 m1 c1) (.slice A2 m2 c2) (.slice A3 m3 c3) (.int .i64 to) (.string (bstr tn)) (.int .i64 ts) (.slice B q cb) W := by
    rw [hW]
    exact ⟨box3 (heap2a _ _ _), box4 (heap_at _ _ _ (by simp))⟩
  have hzW : W.heap.size = w.heap.size + 2 := by rw [hW]; simp
  have HB0 := Lib.hid hb0
  have w1 : IntKind.i64.wrap ((m1 : Int) - 1) = (m1 : Int) - 1 := IntWalk.i64_in _ (by omega)
  have w3 : IntKind.i64.wrap ((m3 : Int) - 1) = (m3 : Int) - 1 := IntWalk.i64_in _ (by omega)
  clear hb0
  by_cases hv : to = -1
  · have HF : Hid (r = true ↔ nameOk tn = true ∧ (0 ≤ ts ∧ ts < m1) ∧ q = 0) := Lib.hid (by rw [if_pos hv] at hr; exact hr)
    have HN := Lib.hid (fun W r hr => sName_any tn hb1 r hr W)
    have HI := Lib.hid (fun W r hr => l1In_any ts 0 ((m1 : Int) - 1) r hr W)
    subst hv
    obtain ⟨nb, hnb⟩ : ∃ b, nameOk tn = b := ⟨_, rfl⟩
    obtain ⟨ib, hib⟩ : ∃ b, inI ts 0 ((m1 : Int) - 1) = b := ⟨_, rfl⟩
    have hii : ib = true ↔ 0 ≤ ts ∧ ts < m1 := by rw [← hib, inI, decide_eq_true_iff]; omega
    have HNN := Lib.hid hnb
    have HII := Lib.hid hib
    have HQ := Lib.hid hii
    clear hib hii hb1 hb2 hb3
    cases nb with
    | false =>
      have HG : Hid (r = false) := Lib.hid (by cases hq : r with
        | false => rfl
        | true => exact absurd (HF.out.1 hq).1 (by rw [HNN.out]; simp))
      clear hr hnb hzW HF
      go_enter Tryz.func129, Tryz.ntmps129
      go_wp2_with fail
      rw [← hW]
      clear hW
      refine (HN.out _ false HNN.out).mono ?_
      rintro e w1 ⟨rfl, rfl⟩
      go_wp2
      go_ret
      exact ⟨ret_bool HG.out.symm, HB0.out⟩
    | true =>
      cases ib with
      | false =>
        have HG : Hid (r = false) := Lib.hid (by cases hq : r with
          | false => rfl
          | true => exact absurd (HQ.out.2 (HF.out.1 hq).2.1) (by simp))
        clear hr hnb hzW HF
        go_enter Tryz.func129, Tryz.ntmps129
        go_wp2_with fail
        rw [← hW]
        clear hW
        refine (HN.out _ true HNN.out).mono ?_
        rintro e w1 ⟨rfl, rfl⟩
        go_wp2_with fail
        refine (HI.out _ false HII.out).mono ?_
        rintro e w1 ⟨rfl, rfl⟩
        go_wp2
        go_ret
        exact ⟨ret_bool HG.out.symm, HB0.out⟩
      | true =>
        have HG : Hid (r = decide (q = 0)) := Lib.hid (by rw [Bool.eq_iff_iff, HF.out, decide_eq_true_iff]; exact ⟨fun e => e.2.2, fun e => ⟨HNN.out, HQ.out.1 rfl, e⟩⟩)
        have hqq : ((q : Int) == 0) = decide (q = 0) := by rw [Bool.eq_iff_iff]; simp
        clear hr hnb hzW HF
        go_enter Tryz.func129, Tryz.ntmps129
        go_wp2_with fail
        rw [← hW]
        clear hW
        refine (HN.out _ true HNN.out).mono ?_
        rintro e w1 ⟨rfl, rfl⟩
        go_wp2_with fail
        refine (HI.out _ true HII.out).mono ?_
        rintro e w1 ⟨rfl, rfl⟩
        go_wp2
        go_ret
        exact ⟨ret_bool (by rw [HG.out]), HB0.out⟩
  · have HF : Hid (r = true ↔ (0 ≤ to ∧ to < m3) ∧ tn = [] ∧ ts = 0 ∧ if (O.getD to.toNat default).ass = true then 2 ≤ q ∧ q ≤ 7 else q = ar (O.getD to.toNat default)) := Lib.hid (by rw [if_neg hv] at hr; exact hr)
    have HI := Lib.hid (fun W r hr => l1In_any to 0 ((m3 : Int) - 1) r hr W)
    have v1 : (to == -1) = false := by simp [hv]
    have v2 : decide (to = -1) = false := decide_eq_false hv
    by_cases hin : 0 ≤ to ∧ to < m3
    · obtain ⟨k, rfl⟩ : ∃ k : Nat, to = (k : Int) := ⟨to.toNat, by omega⟩
      have hk3 : k < m3 := by omega
      have HII : Hid (inI (k : Int) 0 ((m3 : Int) - 1) = true) := Lib.hid (by rw [inI, decide_eq_true_iff]; omega)
      obtain ⟨g, o, A4, c4, hA, _, hg, hc0, hc1, hc2, hc3, hc4, hh, _, _⟩ := op_at HO.out hk3
      have hmem : O.getD k default ∈ O := by
        rw [List.getD_eq_getElem?_getD, List.getElem?_eq_getElem (by have := HM3.out; omega)]; exact List.getElem_mem _
      have hdl := (declsOk_parts (HD.out _ hmem)).1
      have HFK : Hid (r = true ↔ tn = [] ∧ ts = 0 ∧ if (O.getD k default).ass = true then 2 ≤ q ∧ q ≤ 7 else q = ar (O.getD k default)) := Lib.hid (by
        have h1 := HF.out
        rw [Int.toNat_natCast] at h1
        rw [h1]
        exact ⟨fun e => e.2, fun e => ⟨hin, e⟩⟩)
      obtain ⟨⟨nm, D, a, b, u⟩, hx⟩ : ∃ x, x = O.getD k default := ⟨_, rfl⟩
      rw [← hx] at hc0 hc1 hc2 hc3 hc4 hh hdl HFK
      simp only [] at hc0 hc1 hc2 hc3 hc4 hh hdl
      have hH0 := HB0.out
      rw [← hH0.cell (p := ⟨g, o + k * 5, none⟩) hg] at hc0
      rw [← hH0.cell (p := ⟨g, o + k * 5 + 1, none⟩) hg] at hc1
      rw [← hH0.cell (p := ⟨g, o + k * 5 + 2, none⟩) hg] at hc2
      rw [← hH0.cell (p := ⟨g, o + k * 5 + 3, none⟩) hg] at hc3
      rw [← hH0.cell (p := ⟨g, o + k * 5 + 4, none⟩) hg] at hc4
      have HAR := Lib.hid (fun V (hV : Below w.heap.size w V) => l4Arity_any nm D hdl _ a b u V (hh.below RD_steady (Nat.le_refl _) hV))
      obtain ⟨dl, hdle⟩ : ∃ q, q = D.length := ⟨_, rfl⟩
      obtain ⟨ln, hln⟩ : ∃ q, q = (hd0 D).1.length := ⟨_, rfl⟩
      rw [← hdle] at hc1 HAR
      rw [← hln] at HAR
      have HLN : Hid (ar ⟨nm, D, a, b, u⟩ = ln) := Lib.hid hln.symm
      have i1 : (0 : Int) ≤ (k : Int) := by omega
      have i2 : (k : Int) < (m3 : Int) := by omega
      subst hA
      clear hr HF HR hin HI hb2 hx hmem hdl hdle hln hh hH0 hb1 HO HD HM3
      have HI := Lib.hid (fun W r hr => l1In_any (k : Int) 0 ((m3 : Int) - 1) r hr W)
      have HI2 := Lib.hid (fun W r hr => l1In_any (q : Int) 2 7 r hr W)
      by_cases hn : tn = []
      · have e1 : (bstr tn).toList = [] := (toList_nil tn).2 hn
        have e2 : (bstr tn).toList.isEmpty = true := by rw [e1]; rfl
        by_cases hs0 : ts = 0
        · have HFA : Hid (r = true ↔ if a = true then 2 ≤ q ∧ q ≤ 7 else q = ln) := Lib.hid (by rw [HFK.out, HLN.out]; exact ⟨fun e => e.2.2, fun e => ⟨hn, hs0, e⟩⟩)
          subst hs0
          subst hn
          clear HFK HLN hb3 v1 v2
          cases a with
          | false =>
            have HG : Hid (r = decide (q = ln)) := Lib.hid (by rw [Bool.eq_iff_iff, HFA.out, if_neg (by simp), decide_eq_true_iff])
            have hqq : ((q : Int) == (ln : Int)) = decide (q = ln) := by rw [Bool.eq_iff_iff]; simp; omega
            have hq2 : (q == ln) = decide (q = ln) := by rw [Bool.eq_iff_iff]; simp
            clear HFA
            obtain ⟨z, hz⟩ : ∃ z, z = decide (q = ln) := ⟨_, rfl⟩
            have hq3 : decide (q = ln) = z := hz.symm
            rw [← hz] at HG hqq hq2
            clear hz
            cases z with
            | false =>
              have hp1 : ¬ q = ln := of_decide_eq_false hq3
              have hp2 : ¬ (q : Int) = (ln : Int) := by omega
              go_enter Tryz.func129, Tryz.ntmps129
              go_wp2_with fail
              rw [← hW]
              clear hW
              refine (HI.out _ true HII.out).mono ?_
              rintro e w1 ⟨rfl, rfl⟩
              go_wp2_with fail
              have hbA : Below w.heap.size w (W.alloc (.cells #[.string (bstr nm), .slice A4 dl c4, .bool false, .bool b, .int .i64 u] 97)) := HB0.out.alloc HB0.out.size _
              refine (HAR.out _ hbA).mono ?_
              rintro e w1 ⟨rfl, hb1⟩
              have b2 : w1.cell? ⟨w.heap.size + 2, 2, none⟩ = some (.bool false) := by rw [← hzW]; exact cell_of_row _ _ 2 _ _ _ ((hb1.block W.heap.size (by simp)).trans (heap_at _ _ _ rfl))
              have HB1 := Lib.hid (hbA.trans (hb1.mono hbA.size))
              clear hzW hb1 hbA x0 x1 x2 y0 y1 y2 y3 hc0 hc1 hc2 hc3 hc4
              go_wp2
              go_ret
              exact ⟨ret_bool (by rw [HG.out]; first | done | rfl | (simp [hqq]; done) | (simp at hqq ⊢; omega) | (simp at hqq ⊢; exact hqq)), HB1.out⟩
            | true =>
              obtain rfl : q = ln := of_decide_eq_true hq3
              go_enter Tryz.func129, Tryz.ntmps129
              go_wp2_with fail
              rw [← hW]
              clear hW
              refine (HI.out _ true HII.out).mono ?_
              rintro e w1 ⟨rfl, rfl⟩
              go_wp2_with fail
              have hbA : Below w.heap.size w (W.alloc (.cells #[.string (bstr nm), .slice A4 dl c4, .bool false, .bool b, .int .i64 u] 97)) := HB0.out.alloc HB0.out.size _
              refine (HAR.out _ hbA).mono ?_
              rintro e w1 ⟨rfl, hb1⟩
              have b2 : w1.cell? ⟨w.heap.size + 2, 2, none⟩ = some (.bool false) := by rw [← hzW]; exact cell_of_row _ _ 2 _ _ _ ((hb1.block W.heap.size (by simp)).trans (heap_at _ _ _ rfl))
              have HB1 := Lib.hid (hbA.trans (hb1.mono hbA.size))
              clear hzW hb1 hbA x0 x1 x2 y0 y1 y2 y3 hc0 hc1 hc2 hc3 hc4
              go_wp2
              go_ret
              exact ⟨ret_bool (by rw [HG.out]; first | done | rfl | (simp [hqq]; done) | (simp at hqq ⊢; omega) | (simp at hqq ⊢; exact hqq)), HB1.out⟩
          | true =>
            obtain ⟨z, hz⟩ : ∃ z, inI (q : Int) 2 7 = z := ⟨_, rfl⟩
            have HZ := Lib.hid hz
            have HG : Hid (r = z) := Lib.hid (by rw [Bool.eq_iff_iff, HFA.out, if_pos rfl, ← hz, inI, decide_eq_true_iff]; omega)
            clear HFA hz
            cases z with
            | false =>
              go_enter Tryz.func129, Tryz.ntmps129
              go_wp2_with fail
              rw [← hW]
              clear hW
              refine (HI.out _ true HII.out).mono ?_
              rintro e w1 ⟨rfl, rfl⟩
              go_wp2_with fail
              have hbA : Below w.heap.size w (W.alloc (.cells #[.string (bstr nm), .slice A4 dl c4, .bool true, .bool b, .int .i64 u] 97)) := HB0.out.alloc HB0.out.size _
              have HBA := Lib.hid hbA
              clear hbA
              refine (HI2.out _ _ HZ.out).mono ?_
              rintro e w1 ⟨rfl, rfl⟩
              go_wp2
              go_ret
              exact ⟨ret_bool (by rw [HG.out]), HBA.out⟩
            | true =>
              go_enter Tryz.func129, Tryz.ntmps129
              go_wp2_with fail
              rw [← hW]
              clear hW
              refine (HI.out _ true HII.out).mono ?_
              rintro e w1 ⟨rfl, rfl⟩
              go_wp2_with fail
              have hbA : Below w.heap.size w (W.alloc (.cells #[.string (bstr nm), .slice A4 dl c4, .bool true, .bool b, .int .i64 u] 97)) := HB0.out.alloc HB0.out.size _
              have HBA := Lib.hid hbA
              clear hbA
              refine (HI2.out _ _ HZ.out).mono ?_
              rintro e w1 ⟨rfl, rfl⟩
              go_wp2
              go_ret
              exact ⟨ret_bool (by rw [HG.out]), HBA.out⟩
        · have HG : Hid (r = false) := Lib.hid (by cases hq : r with
            | false => rfl
            | true => exact absurd (HFK.out.1 hq).2.1 hs0)
          have s1 : (ts == 0) = false := by simp [hs0]
          have s2 : decide (ts = 0) = false := decide_eq_false hs0
          subst hn
          clear HFK HLN
          go_enter Tryz.func129, Tryz.ntmps129
          go_wp2_with fail
          rw [← hW]
          clear hW
          refine (HI.out _ true HII.out).mono ?_
          rintro e w1 ⟨rfl, rfl⟩
          go_wp2
          go_ret
          exact ⟨ret_bool HG.out.symm, HB0.out⟩
      · have HG : Hid (r = false) := Lib.hid (by cases hq : r with
          | false => rfl
          | true => exact absurd (HFK.out.1 hq).1 hn)
        have e1 : ¬ (bstr tn).toList = [] := fun e => hn ((toList_nil _).1 e)
        have e2 : (bstr tn).toList.isEmpty = false := by
          cases hq : (bstr tn).toList with
          | nil => exact absurd hq e1
          | cons _ _ => rfl
        clear HFK HLN
        go_enter Tryz.func129, Tryz.ntmps129
        go_wp2_with fail
        rw [← hW]
        clear hW
        refine (HI.out _ true HII.out).mono ?_
        rintro e w1 ⟨rfl, rfl⟩
        go_wp2
        go_ret
        exact ⟨ret_bool HG.out.symm, HB0.out⟩
    · have HII : Hid (inI to 0 ((m3 : Int) - 1) = false) := Lib.hid (by rw [inI, decide_eq_false_iff_not]; omega)
      have HG : Hid (r = false) := Lib.hid (by cases hq : r with
        | false => rfl
        | true => exact absurd (HF.out.1 hq).1 hin)
      clear hr HF hin HO HD HM3 HR
      go_enter Tryz.func129, Tryz.ntmps129
      go_wp2_with fail
      rw [← hW]
      clear hW
      refine (HI.out _ false HII.out).mono ?_
      rintro e w1 ⟨rfl, rfl⟩
      go_wp2
      go_ret
      exact ⟨ret_bool HG.out.symm, HB0.out⟩
end Go.Proofs.YtjejdcehlckfhaaGreat.formnd
/-
  THE MODEL's KINDS OF TERMS: l6Kind, l6Unit.
-/
namespace Go.Proofs.YtjejdcehlckfhaaGreat.formk
open Go.ChangeShapes Go.WideShapes Go.ChangeAt Go.RowKit
open mem dec setm sets sortm sortn sortp sorti sortu sortg sigm sigs sigt sigl rowl trm trmv terml termb termt termx termz termro termsd termvr termev frm termlm sigi sigj sigk gram gramo graml gramk gramc gramn gramt grami formnd

theorem sig_sorts {P : List (List UInt8)} {Q : List (Int × Int)} {O : List OpM} (h : sigOk P Q O = true) : 1 ≤ P.length ∧ P.length ≤ 8 ∧ PIn P.length Q ∧ Q.length ≤ 32 ∧ ∀ p ∈ Q, p.1 ≠ p.2 := by
  have hS := (sigOk_parts h).1
  obtain ⟨p1, p2, p3, p4, p5⟩ := okS_parts hS
  exact ⟨p1, p2, p3, by omega, ok_ne hS⟩
/-- the sort that says a term's kind -/
def srtT (O : List OpM) (t : TermM) : Int := if t.op = -1 then t.sort else rs (O.getD t.op.toNat default)
/-- its parts are in range -/
def RangeT (P : List (List UInt8)) (O : List OpM) (t : TermM) : Prop := if t.op = -1 then 0 ≤ t.sort ∧ t.sort < P.length else 0 ≤ t.op ∧ t.op < O.length
set_option maxRecDepth 50000 in
set_option maxHeartbeats 8000000 in
/-- spec.l6Kind -/
theorem sKind_any {N lo : Nat} (P : List (List UInt8)) (Q : List (Int × Int)) (O : List OpM) (hok : sigOk P Q O = true) (va vb vc : Value) (t : TermM) (ve : Value) (w : World) (h : HasG w va vb vc P Q O) (ht : HasTs N lo w ve t.args) (hR : RangeT P O t) :
    Calls Tryz.prog 153 #[.agg #[va, vb, vc], aggT t ve] w fun e w' => e = .returned (.int .i64 ((κK P.length Q (srtT O t) : Nat) : Int)) ∧ Below w.heap.size w w' := by
  obtain ⟨p1, p2, p3, p4, p5⟩ := sig_sorts hok
  obtain ⟨_, h14, _, hd, _⟩ := sigOk_parts hok
  have hKl : (kin P.length (prs Q)).length = P.length := kin_len _ _
  obtain ⟨B, cb, rfl, _⟩ := HasR.shape ht rfl
  have HKI := Lib.hid (fun W (hW : Below w.heap.size w W) => l3Kinds_any P Q p1 p2 p4 p3 p5 va vb W (h.below (Nat.le_refl _) hW).s)
  obtain ⟨A1, c1, A2, c2, A3, c3, rfl, rfl, rfl, _, _, _, h'⟩ := h.shape
  unfold aggT
  unfold RangeT at hR
  unfold srtT
  obtain ⟨q, hq⟩ : ∃ q, q = t.args.length := ⟨_, rfl⟩
  obtain ⟨to, hto⟩ : ∃ q, q = t.op := ⟨_, rfl⟩
  obtain ⟨tn, htn⟩ : ∃ q, q = t.name := ⟨_, rfl⟩
  obtain ⟨ts, hts⟩ : ∃ q, q = t.sort := ⟨_, rfl⟩
  obtain ⟨n, hn⟩ : ∃ n, n = P.length := ⟨_, rfl⟩
  obtain ⟨m2, hm2⟩ : ∃ q, q = Q.length := ⟨_, rfl⟩
  obtain ⟨m3, hm3⟩ : ∃ q, q = O.length := ⟨_, rfl⟩
  rw [← hn] at hKl
  rw [← hto, ← hts, ← hn, ← hm3] at hR
  rw [← hq, ← hto, ← htn, ← hts, ← hn, ← hm2, ← hm3]
  rw [← hn, ← hm2] at HKI
  obtain ⟨K, hK⟩ : ∃ K, K = kin n (prs Q) := ⟨_, rfl⟩
  have hκ : ∀ x, κK n Q x = K.getD x.toNat 0 := fun x => by rw [κK, hK]
  rw [← hK] at HKI hKl
  have HO : Hid (HasO 0 w (.slice A3 m3 c3) O) := Lib.hid (by rw [hm3]; exact h'.o)
  have HD : Hid (∀ k, k < m3 → okD n (hd0 (O.getD k default).decls) = true ∧ 1 ≤ (O.getD k default).decls.length) := Lib.hid (fun k hk => by
    have h1 := declsOk_parts (hd (O.getD k default) (by rw [List.getD_eq_getElem?_getD, List.getElem?_eq_getElem (by omega)]; exact List.getElem_mem _))
    rw [hn]
    exact ⟨h1.2.2.2, h1.1⟩)
  have HKP := Lib.hid hκ
  clear h h' ht hq hto htn hts hm2 hm3 hok hd hK hκ p3 p4 p5 hn p1 p2
  obtain ⟨W, hW⟩ : ∃ W, W = (w.alloc (.cells #[.slice A1 n c1, .slice A2 m2 c2, .slice A3 m3 c3] 40)).alloc (.cells #[.int .i64 to, .string (bstr tn), .int .i64 ts, .slice B q cb] 44) := ⟨_, rfl⟩
  have hb0 : Below w.heap.size w W := by
    rw [hW]
    repeat (first | exact Below.refl _ _ | refine Below.alloc ?_ (by first | (simp; done) | (simp; omega)) _)
  have hX : Box34 w.heap.size (w.heap.size + 1) (.slice A1 n c1) (.slice A2 m2 c2) (.slice A3 m3 c3) (.int .i64 to) (.string (bstr tn)) (.int .i64 ts) (.slice B q cb) W := by
    rw [hW]
    exact ⟨box3 (heap2a _ _ _), box4 (heap_at _ _ _ (by simp))⟩
  have HX := Lib.hid hX
  obtain ⟨⟨x0, x1, x2⟩, y0, y1, y2, y3⟩ := hX
  have HB0 := Lib.hid hb0
  clear hb0
  by_cases hv : to = -1
  · rw [if_pos hv] at hR ⊢
    obtain ⟨z, rfl⟩ : ∃ z : Nat, ts = (z : Int) := ⟨ts.toNat, by omega⟩
    have HZ : Hid (κK n Q (z : Int) = K.getD z 0) := Lib.hid (by rw [HKP.out, Int.toNat_natCast])
    subst hv
    go_enter Tryz.func153, Tryz.ntmps153
    go_wp2_with fail
    rw [← hW]
    clear hW
    refine (HKI.out W HB0.out).mono ?_
    rintro e w2 ⟨kv, rfl, hkv, hb2⟩
    obtain ⟨KA, kc, rfl, hkh⟩ := (Has.of_own hkv).shape (n := n) (by rw [ivs_len, nats_len]; exact hKl)
    have hX2 := Box34.below HX.out hb2
    have HB2 := Lib.hid (HB0.out.trans (hb2.mono HB0.out.size))
    clear x0 x1 x2 y0 y1 y2 y3
    obtain ⟨⟨x0, x1, x2⟩, y0, y1, y2, y3⟩ := hX2
    obtain ⟨gk, ok, rfl, hgk, hk0⟩ := hkh.cellAt (j := z) (by omega)
    rw [ivs_get _ z (by rw [nats_len]; omega), nats_get] at hk0
    have i1 : (0 : Int) ≤ (z : Int) := by omega
    have i2 : (z : Int) < (n : Int) := by omega
    clear hkv hb2 hkh
    go_wp2
    go_ret
    exact ⟨ret_int (by first | (rw [HZ.out, List.getD_eq_getElem?_getD]; done) | (rw [HZ.out, List.getD_eq_getElem?_getD, List.getElem?_eq_getElem (by omega)]; rfl)), HB2.out⟩
  · rw [if_neg hv] at hR ⊢
    obtain ⟨k, rfl⟩ : ∃ k : Nat, to = (k : Int) := ⟨to.toNat, by omega⟩
    have hk3 : k < m3 := by omega
    obtain ⟨g, o, A4, c4, hA, _, hg, _, hc1, _, _, _, hh, _, _⟩ := op_at HO.out hk3
    obtain ⟨hD1, hD2⟩ := HD.out k hk3
    obtain ⟨gd, od, A5, c5, hA4, _, hgd, _, d1, _, _, _⟩ := decl_at hh (j := 0) (by omega)
    rw [Int.toNat_natCast]
    obtain ⟨z, hz⟩ : ∃ z : Nat, rs (O.getD k default) = (z : Int) := ⟨(rs (O.getD k default)).toNat, by
      have := (okD_parts hD1).2.1
      simp only [inN, decide_eq_true_eq] at this
      unfold rs
      omega⟩
    have hzn : z < n := by
      have := (okD_parts hD1).2.1
      simp only [inN, decide_eq_true_eq] at this
      unfold rs at hz
      omega
    have hz' : ((O.getD k default).decls.getD 0 default).2 = (z : Int) := hz
    rw [hz, show od + 0 * 2 + 1 = od + 1 by omega] at *
    rw [hz'] at d1
    obtain ⟨dl, hdl⟩ : ∃ q, q = (O.getD k default).decls.length := ⟨_, rfl⟩
    rw [← hdl] at hc1 hD2
    have HZ : Hid (κK n Q (z : Int) = K.getD z 0) := Lib.hid (by rw [HKP.out, Int.toNat_natCast])
    have i3 : (0 : Int) ≤ (k : Int) := by omega
    have i4 : (k : Int) < (m3 : Int) := by omega
    have i5 : (0 : Int) < (dl : Int) := by omega
    have v1 : ((k : Int) == -1) = false := by first | (simp; done) | (simp; omega)
    have HC : Hid (w.cell? ⟨g, o + k * 5 + 1, none⟩ = some (.slice A4 dl c4) ∧ w.cell? ⟨gd, od + 1, none⟩ = some (.int .i64 z)) := Lib.hid ⟨hc1, d1⟩
    subst hA
    subst hA4
    clear hc1 d1 hh hD1 hz hz' hdl HD HO hR
    go_enter Tryz.func153, Tryz.ntmps153
    go_wp2_with fail
    rw [← hW]
    clear hW
    refine (HKI.out W HB0.out).mono ?_
    rintro e w2 ⟨kv, rfl, hkv, hb2⟩
    obtain ⟨KA, kc, rfl, hkh⟩ := (Has.of_own hkv).shape (n := n) (by rw [ivs_len, nats_len]; exact hKl)
    have hX2 := Box34.below HX.out hb2
    have hbw2 := HB0.out.trans (hb2.mono HB0.out.size)
    have hc1 := (hbw2.cell (p := ⟨g, o + k * 5 + 1, none⟩) hg).trans HC.out.1
    have d1 := (hbw2.cell (p := ⟨gd, od + 1, none⟩) hgd).trans HC.out.2
    have HB2 := Lib.hid hbw2
    clear x0 x1 x2 y0 y1 y2 y3
    obtain ⟨⟨x0, x1, x2⟩, y0, y1, y2, y3⟩ := hX2
    obtain ⟨gk, ok, rfl, hgk, hk0⟩ := hkh.cellAt (j := z) (by omega)
    rw [ivs_get _ z (by rw [nats_len]; omega), nats_get] at hk0
    have i1 : (0 : Int) ≤ (z : Int) := by omega
    have i2 : (z : Int) < (n : Int) := by omega
    clear hkv hb2 hkh hbw2
    go_wp2
    go_ret
    exact ⟨ret_int (by first | (rw [HZ.out, List.getD_eq_getElem?_getD]; done) | (rw [HZ.out, List.getD_eq_getElem?_getD, List.getElem?_eq_getElem (by omega)]; rfl)), HB2.out⟩
set_option maxRecDepth 50000 in
set_option maxHeartbeats 8000000 in
/-- spec.l6Unit -/
theorem sUnit_any (P : List (List UInt8)) (Q : List (Int × Int)) (O : List OpM) (va vb vc : Value) (k : Nat) (hk : k < O.length) (_h14 : O.length ≤ 14) (hu : 0 ≤ (O.getD k default).unt ∧ (O.getD k default).unt ≤ 14) (w : World) (h : HasG w va vb vc P Q O) :
    Calls Tryz.prog 152 #[.agg #[va, vb, vc], .int .i64 (k : Int)] w fun e w' => e = .returned (.tuple #[.agg #[.int .i64 (if (O.getD k default).unt = 0 then 0 else (O.getD k default).unt - 1), .string (bstr []), .int .i64 0, .slice none 0 0], .bool (!decide ((O.getD k default).unt = 0))]) ∧ Below w.heap.size w w' := by
  obtain ⟨A1, c1, A2, c2, A3, c3, rfl, rfl, rfl, _, _, _, h'⟩ := h.shape
  obtain ⟨m1, hm1⟩ : ∃ q, q = P.length := ⟨_, rfl⟩
  obtain ⟨m2, hm2⟩ : ∃ q, q = Q.length := ⟨_, rfl⟩
  obtain ⟨m3, hm3⟩ : ∃ q, q = O.length := ⟨_, rfl⟩
  have HO : HasO 0 w (.slice A3 m3 c3) O := by rw [hm3]; exact h'.o
  rw [← hm1, ← hm2, ← hm3]
  rw [← hm3] at hk
  obtain ⟨g, o, A4, c4, hA, _, hg, _, _, _, _, hc4, _, _, _⟩ := op_at HO hk
  obtain ⟨u, hu'⟩ : ∃ u, u = (O.getD k default).unt := ⟨_, rfl⟩
  rw [← hu'] at hc4 hu ⊢
  subst hA
  have i1 : (0 : Int) ≤ (k : Int) := by omega
  have i2 : (k : Int) < (m3 : Int) := by omega
  have hw : IntKind.i64.wrap (u - 1) = u - 1 := IntWalk.i64_in _ (by omega)
  have hb0 : Below w.heap.size w (w.alloc (.cells #[.slice A1 m1 c1, .slice A2 m2 c2, .slice (some ⟨g, o, none⟩) m3 c3] 40)) := (Below.refl _ _).alloc (Nat.le_refl _) _
  have hz := (hb0.cell (p := ⟨g, o + k * 5 + 4, none⟩) hg).trans hc4
  clear h h' HO hm1 hm2 hm3 hu'
  by_cases h0 : u = 0
  · subst h0
    go_enter Tryz.func152, Tryz.ntmps152
    go_wp2
    refine bodyPost_ret (v := .tuple #[.agg #[.int .i64 0, .string (bstr []), .int .i64 0, .slice none 0 0], .bool false]) (by simp [results, Tryz.results152, go_sem, bstr]) rfl ?_
    exact ⟨rfl, by repeat (first | exact Below.refl _ _ | refine Below.alloc ?_ (by first | (simp; done) | (simp; omega)) _)⟩
  · have d1 : (u == 0) = false := by simp [h0]
    have d2 : decide (u = 0) = false := decide_eq_false h0
    go_enter Tryz.func152, Tryz.ntmps152
    go_wp2
    refine bodyPost_ret (v := .tuple #[.agg #[.int .i64 (u - 1), .string (bstr []), .int .i64 0, .slice none 0 0], .bool true]) (by simp [results, Tryz.results152, go_sem, bstr]) rfl ?_
    exact ⟨rfl, by repeat (first | exact Below.refl _ _ | refine Below.alloc ?_ (by first | (simp; done) | (simp; omega)) _)⟩
end Go.Proofs.YtjejdcehlckfhaaGreat.formk
