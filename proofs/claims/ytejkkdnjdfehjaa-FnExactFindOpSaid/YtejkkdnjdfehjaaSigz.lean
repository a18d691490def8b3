/-
  THE PROGRAM's FUNCTIONS OF SIGNATURES: FindOp, ArityOf, IsFreeSignature.
-/
import Derived.Test.YtejkkdnjdfehjaaSigv
namespace Go.Proofs.Ytejkkdnjdfehjaa.sigz
open Go.ChangeShapes Go.WideShapes Go.ChangeAt Go.RowKit
open mem split strl join subs sortn setm sets sortm sortp sorti sortf rowl sigm sigs sigi sigj sigk sigq sigr sigv

/-- slices.Index, at strings: the first index -/
theorem index_at (P : List (List UInt8)) (x : List UInt8) (v : Value) (w : World) (h : Has w v (ssv P)) :
    Calls Try.prog 27 #[v, .string (bstr x)] w fun e w' => e = .returned (.int .i64 (sigm.opAt P x)) ∧ w = w' := by
  obtain ⟨A, c, rfl, h⟩ := h.shape (ssv_len P)
  have hl := h.len.2
  have HH := Lib.hid h
  obtain ⟨R, hR⟩ : ∃ R, R = sigm.opAt P x := ⟨_, rfl⟩
  rw [← hR]
  have HR := Lib.hid hR
  clear h hR
  go_enter Try.func27, Try.ntmps27
  go_wp2
  go_loop [5, 8] (fun u i => ∃ k : Nat, k ≤ P.length ∧ i = .int .i64 k ∧ Hid (x ∉ P.take k)) (fun _ i => P.length - (intOf i).toNat)
  case atStart => exact ⟨0, Nat.zero_le _, rfl, Lib.hid (by simp)⟩
  case round =>
    obtain ⟨k, hk, rfl, HX⟩ := hrel
    by_cases hlt : k < P.length
    · obtain ⟨g, o, rfl, hg, hcell⟩ := HH.out.cellAt hlt
      rw [ssv_get P k hlt] at hcell
      obtain ⟨y, hy⟩ : ∃ y, y = P.getD k [] := ⟨_, rfl⟩
      rw [← hy] at hcell
      by_cases hxy : x = y
      · subst hxy
        have HM : Hid (R = (k : Int)) := Lib.hid (by rw [HR.out]; exact opAt_hit hlt HX.out hy.symm)
        clear hy
        go_wp2
        go_ret
        exact ⟨ret_int HM.out.symm, rfl⟩
      · have hne : ((bstr x).toList == (bstr y).toList) = false := by rw [bstr_eq]; simpa using hxy
        have HX2 : Hid (x ∉ P.take (k + 1)) := Lib.hid (take_not hlt HX.out (by rw [← hy]; exact fun e => hxy e.symm))
        clear hxy hy
        go_wp2
        go_round
        case rel => exact ⟨k + 1, by omega, by go_num, HX2⟩
        case measure => simp [intOf]; omega
    · obtain rfl : k = P.length := by omega
      have HM : Hid (R = -1) := Lib.hid (by rw [HR.out]; have := HX.out; rw [List.take_length] at this; exact opAt_miss this)
      go_wp2
      go_ret
      exact ⟨ret_int HM.out.symm, rfl⟩
set_option maxRecDepth 20000 in
/-- impl.FindOp -/
theorem iFind_any (P : List (List UInt8)) (Q : List (Int × Int)) (O : List OpM) (va vb vc : Value) (x : List UInt8) (w : World) (h : HasG w va vb vc P Q O) :
    Calls Try.prog 10 #[.agg #[va, vb, vc], .string (bstr x)] w fun e w' => e = .returned (.int .i64 (findI P Q O x)) ∧ Below w.heap.size w w' := by
  have HIS := Lib.hid (fun r hr W (hW : Below w.heap.size w W) => iIsSig_any P Q O va vb vc r hr W (h.below (Nat.le_refl _) hW))
  obtain ⟨A, ca, B, cb, C, cc, rfl, rfl, rfl, hl1, hl2, hl3, h'⟩ := h.shape
  have HOO := Lib.hid (fun W (hW : Below w.heap.size w W) => (h'.below (Nat.le_refl _) hW).o)
  obtain ⟨n, hn⟩ : ∃ n, n = O.length := ⟨_, rfl⟩
  have HN := Lib.hid hn
  rw [← hn] at hl3 HOO HIS ⊢
  clear h h' hn
  cases hok : sigOk P Q O with
  | false =>
    have HQ : Hid (findI P Q O x = -1) := Lib.hid (by rw [findI, hok]; rfl)
    have HI := Lib.hid (HIS.out false hok)
    clear hok
    go_enter Try.func10, Try.ntmps10
    go_wp2_with fail
    refine (HI.out _ ((Below.refl _ _).alloc (Nat.le_refl _) _)).mono ?_
    rintro e w1 ⟨rfl, hb1⟩
    go_wp2
    go_ret
    exact ⟨ret_int HQ.out.symm, ((Below.refl _ _).alloc (Nat.le_refl _) _).trans (hb1.mono (by simp))⟩
  | true =>
    have HQ : Hid (findI P Q O x = sigm.opAt (nms O) x) := Lib.hid (by rw [findI, hok]; rfl)
    have HI := Lib.hid (HIS.out true hok)
    have H14 := Lib.hid (sigOk_parts hok).2.1
    clear hok
    go_enter Try.func10, Try.ntmps10
    go_wp2_with fail
    refine (HI.out _ ((Below.refl _ _).alloc (Nat.le_refl _) _)).mono ?_
    rintro e w1 ⟨rfl, hb1⟩
    have c2 : w1.cell? ⟨w.heap.size, 2, none⟩ = some (.slice C n cc) := by rw [hb1.cell (p := ⟨w.heap.size, 2, none⟩) (by simp)]; simp
    have hbw1 : Below w.heap.size w w1 := ((Below.refl _ _).alloc (Nat.le_refl _) _).trans (hb1.mono (by simp))
    clear hb1
    go_wp2_with fail
    refine (opNames_any O H14.out _ _ (HOO.out _ hbw1)).mono ?_
    rintro e w2 ⟨v2, rfl, hv2, hb2⟩
    have HV2 := Lib.hid hv2
    have hbw2 := hbw1.trans (hb2.mono hbw1.size)
    clear hv2 hb2
    go_wp2_with fail
    refine (index_at (nms O) x _ _ HV2.out).mono ?_
    rintro e w3 ⟨rfl, rfl⟩
    go_wp2
    go_ret
    exact ⟨ret_int HQ.out.symm, hbw2⟩
set_option maxRecDepth 20000 in
/-- impl.ArityOf -/
theorem iArity_any (P : List (List UInt8)) (Q : List (Int × Int)) (O : List OpM) (va vb vc : Value) (x : Int) (h1 : -9223372036854775808 ≤ x) (h2 : x ≤ 9223372036854775807) (w : World) (h : HasG w va vb vc P Q O) :
    Calls Try.prog 13 #[.agg #[va, vb, vc], .int .i64 x] w fun e w' => e = .returned (.int .i64 (arI P Q O x)) ∧ Below w.heap.size w w' := by
  have HIS := Lib.hid (fun r hr W (hW : Below w.heap.size w W) => iIsSig_any P Q O va vb vc r hr W (h.below (Nat.le_refl _) hW))
  obtain ⟨A, ca, B, cb, C, cc, rfl, rfl, rfl, hl1, hl2, hl3, h'⟩ := h.shape
  have HOO := Lib.hid (fun W (hW : Below w.heap.size w W) => (h'.below (Nat.le_refl _) hW).o)
  obtain ⟨n, hn⟩ : ∃ n, n = O.length := ⟨_, rfl⟩
  have HN := Lib.hid hn
  rw [← hn] at hl3 HOO HIS ⊢
  clear h h' hn
  cases hok : sigOk P Q O with
  | false =>
    have HQ : Hid (arI P Q O x = -1) := Lib.hid (by rw [arI, if_neg (by simp [hok])])
    have HI := Lib.hid (HIS.out false hok)
    clear hok
    go_enter Try.func13, Try.ntmps13
    go_wp2_with fail
    refine (HI.out _ ((Below.refl _ _).alloc (Nat.le_refl _) _)).mono ?_
    rintro e w1 ⟨rfl, hb1⟩
    go_wp2
    go_ret
    exact ⟨ret_int HQ.out.symm, ((Below.refl _ _).alloc (Nat.le_refl _) _).trans (hb1.mono (by simp))⟩
  | true =>
    have HI := Lib.hid (HIS.out true hok)
    have HIX := Lib.hid (fun r hr W => isIndex_any x n r hr W)
    by_cases hx : 0 ≤ x ∧ x < n
    · obtain ⟨k, rfl⟩ : ∃ k : Nat, x = (k : Int) := ⟨x.toNat, by omega⟩
      have hk : k < n := by omega
      have HQ : Hid (arI P Q O (k : Int) = (ar (O.getD k default) : Int)) := Lib.hid (by rw [arI, if_pos ⟨hok, by omega, by have := HN.out; omega⟩]; rfl)
      have hm : O.getD k default ∈ O := by rw [List.getD_eq_getElem?_getD, List.getElem?_eq_getElem (by have := HN.out; omega)]; exact List.getElem_mem _
      have HD1 := Lib.hid (declsOk_parts ((sigOk_parts hok).2.2.2.1 _ hm)).1
      have HX := Lib.hid (HIX.out true (by simpa using hx))
      clear hok hx hm
      go_enter Try.func13, Try.ntmps13
      go_wp2_with fail
      refine (HI.out _ ((Below.refl _ _).alloc (Nat.le_refl _) _)).mono ?_
      rintro e w1 ⟨rfl, hb1⟩
      have c2 : w1.cell? ⟨w.heap.size, 2, none⟩ = some (.slice C n cc) := by rw [hb1.cell (p := ⟨w.heap.size, 2, none⟩) (by simp)]; simp
      have hbw1 : Below w.heap.size w w1 := ((Below.refl _ _).alloc (Nat.le_refl _) _).trans (hb1.mono (by simp))
      clear hb1
      go_wp2_with fail
      refine (HX.out _).mono ?_
      rintro e w2 ⟨rfl, rfl⟩
      obtain ⟨g, o, A2, c3, rfl, _, hg, hc0, hc1, hc2, hc3, hc4, hh, _, _⟩ := op_at (HOO.out _ hbw1) hk
      obtain ⟨g', o2, A3, c4, rfl, _, hg', d0, d1, hh2, _, _⟩ := decl_at hh (j := 0) (by have := HD1.out; omega)
      have har : ((O.getD k default).decls.getD 0 default).1.length = ar (O.getD k default) := rfl
      rw [har, show o2 + 0 * 2 = o2 by omega] at d0
      have hln := hh2.has.len.2
      rw [har] at hln
      have hdl := hh.len.2.1
      have hd1 := HD1.out
      obtain ⟨dn, hdn⟩ : ∃ dn, dn = (O.getD k default).decls.length := ⟨_, rfl⟩
      rw [← hdn] at hc1 hdl hd1
      obtain ⟨m, hm⟩ : ∃ m, m = ar (O.getD k default) := ⟨_, rfl⟩
      have HM := Lib.hid hm
      rw [← hm] at d0 hln
      clear hh hh2 har hdn hm d1 hc0 hc2 hc3 hc4
      go_wp2
      go_ret
      exact ⟨ret_int (by rw [HQ.out, HM.out]), hbw1⟩
    · have HQ : Hid (arI P Q O x = -1) := Lib.hid (by rw [arI, if_neg (by have := HN.out; omega)])
      have HX := Lib.hid (HIX.out false (by simpa using hx))
      clear hok hx
      go_enter Try.func13, Try.ntmps13
      go_wp2_with fail
      refine (HI.out _ ((Below.refl _ _).alloc (Nat.le_refl _) _)).mono ?_
      rintro e w1 ⟨rfl, hb1⟩
      have c2 : w1.cell? ⟨w.heap.size, 2, none⟩ = some (.slice C n cc) := by rw [hb1.cell (p := ⟨w.heap.size, 2, none⟩) (by simp)]; simp
      have hbw1 : Below w.heap.size w w1 := ((Below.refl _ _).alloc (Nat.le_refl _) _).trans (hb1.mono (by simp))
      clear hb1
      go_wp2_with fail
      refine (HX.out _).mono ?_
      rintro e w2 ⟨rfl, rfl⟩
      go_wp2
      go_ret
      exact ⟨ret_int HQ.out.symm, hbw1⟩
/-- Op.isAssocOrHasUnit -/
theorem hasAx_any (l : List UInt8) (A : Option Addr) (n c : Nat) (a b : Bool) (u : Int) (r : Bool) (hr : (a || decide (u ≠ 0)) = r) (w : World) :
    Calls Try.prog 35 #[.agg #[.string (bstr l), .slice A n c, .bool a, .bool b, .int .i64 u]] w fun e w' => e = .returned (.bool r) ∧ Below w.heap.size w w' := by
  have HR := Lib.hid hr
  clear hr
  cases a with
  | true =>
    go_enter Try.func35, Try.ntmps35
    go_wp2
    go_ret
    exact ⟨ret_bool (by rw [← HR.out]; rfl), (Below.refl _ _).alloc (Nat.le_refl _) _⟩
  | false =>
    by_cases hu : u = 0
    · subst hu
      go_enter Try.func35, Try.ntmps35
      go_wp2
      go_ret
      exact ⟨ret_bool (by rw [← HR.out]; rfl), (Below.refl _ _).alloc (Nat.le_refl _) _⟩
    · have hne : (u != 0) = true := by simpa using hu
      have HR2 : Hid (r = true) := Lib.hid (by rw [← HR.out]; simp [hu])
      clear hu
      go_enter Try.func35, Try.ntmps35
      go_wp2
      go_ret
      exact ⟨ret_bool HR2.out.symm, (Below.refl _ _).alloc (Nat.le_refl _) _⟩
set_option maxRecDepth 20000 in
/-- slices.IndexFunc, at Op.isAssocOrHasUnit -/
theorem indexFunc_any (O : List OpM) (v : Value) (w : World) {lo : Nat} (h : HasO lo w v O) :
    Calls Try.prog 55 #[v, .func (.func 35) #[] #[]] w fun e w' => ∃ i : Int, e = .returned (.int .i64 i) ∧ (0 ≤ i ↔ O.all noAx = false) ∧ Below w.heap.size w w' := by
  obtain ⟨n, hn⟩ : ∃ n, n = O.length := ⟨_, rfl⟩
  obtain ⟨A, c, rfl, h⟩ := HasR.shape h hn.symm
  have hl := h.len.2.1
  have HH := Lib.hid h
  have HN := Lib.hid hn
  clear h hn
  go_enter Try.func55, Try.ntmps55
  go_wp2
  go_loopw [5, 8] (fun _ i wr => ∃ k : Nat, k ≤ n ∧ i = .int .i64 k ∧ Hid (∀ j, j < k → noAx (O.getD j default) = true) ∧ Below w.heap.size w wr) (fun _ i _ => n - (intOf i).toNat)
  case atStart => exact ⟨0, Nat.zero_le _, rfl, Lib.hid (fun j hj => by omega), Below.refl _ _⟩
  case round =>
    obtain ⟨k, hk, rfl, HALL, hbel⟩ := hrel
    by_cases hlt : k < n
    · obtain ⟨g, o, A2, c2, rfl, _, hg, hc0, hc1, hc2, hc3, hc4, hh, hnl, hu64⟩ := op_at HH.out hlt
      have kw : ∀ x, w.cell? ⟨g, x, none⟩ = wr.cell? ⟨g, x, none⟩ := fun x => (hbel.cell (p := ⟨g, x, none⟩) hg).symm
      rw [kw] at hc0 hc1 hc2 hc3 hc4
      have HBAD : Hid (noAx (O.getD k default) = false → O.all noAx = false) := Lib.hid (fun hb => by
        have hk' : k < O.length := by have := HN.out; omega
        rw [List.all_eq_false]
        refine ⟨O[k], List.getElem_mem hk', ?_⟩
        have e : O.getD k default = O[k] := by simp [List.getD, List.getElem?_eq_getElem hk']
        rw [← e, hb]; simp)
      have HGOOD : Hid (noAx (O.getD k default) = true → ∀ j, j < k + 1 → noAx (O.getD j default) = true) := Lib.hid (fun hb j hj => by
        by_cases e : j = k
        · subst e; exact hb
        · exact HALL.out j (by omega))
      unfold noAx at HBAD HGOOD
      obtain ⟨⟨nm, D, a, b, u⟩, hd⟩ : ∃ d, d = O.getD k default := ⟨_, rfl⟩
      rw [← hd] at hc0 hc1 hc2 hc3 hc4 HBAD
      have HGD : Hid ((!a && decide (u = 0)) = true → ∀ j, j < k + 1 → noAx (O.getD j default) = true) := Lib.hid (fun hb => HGOOD.out (by rw [← hd]; exact hb))
      clear hh hd kw hnl hu64 HGOOD
      cases hax : (a || decide (u ≠ 0)) with
      | true =>
        have HB := Lib.hid (HBAD.out (by cases a <;> simp_all))
        have HA := Lib.hid (fun n c W => hasAx_any nm A2 n c a b u true hax W)
        clear hax HGD
        go_wp2_with fail
        refine (HA.out _ _ _).mono ?_
        rintro e w2 ⟨rfl, hb2⟩
        go_wp2
        go_ret
        exact ⟨(k : Int), rfl, ⟨fun _ => HB.out, fun _ => by omega⟩, hbel.trans (hb2.mono hbel.size)⟩
      | false =>
        have HG := Lib.hid (HGD.out (by cases a <;> simp_all))
        have HA := Lib.hid (fun n c W => hasAx_any nm A2 n c a b u false hax W)
        clear hax HGD
        go_wp2_with fail
        refine (HA.out _ _ _).mono ?_
        rintro e w2 ⟨rfl, hb2⟩
        go_wp2
        go_roundw
        case rel => exact ⟨k + 1, by omega, by go_num, HG, hbel.trans (hb2.mono hbel.size)⟩
        case measure => simp [intOf]; omega
    · obtain rfl : k = n := by omega
      have HT : Hid (O.all noAx = true) := Lib.hid (by
        rw [List.all_eq_true]
        intro o ho
        obtain ⟨j, hj, rfl⟩ := List.getElem_of_mem ho
        have := HALL.out j (by have := HN.out; omega)
        simpa [List.getD, List.getElem?_eq_getElem hj] using this)
      go_wp2
      go_ret
      exact ⟨-1, rfl, ⟨fun h => by omega, fun h => (by rw [HT.out] at h; cases h)⟩, hbel⟩
/-- slices.ContainsFunc, at Op.isAssocOrHasUnit -/
theorem containsFunc_any (O : List OpM) (v : Value) (r : Bool) (hr : O.all noAx = r) (w : World) {lo : Nat} (h : HasO lo w v O) :
    Calls Try.prog 34 #[v, .func (.func 35) #[] #[]] w fun e w' => e = .returned (.bool (!r)) ∧ Below w.heap.size w w' := by
  have HC := Lib.hid (indexFunc_any O v w h)
  rw [hr] at HC
  obtain ⟨A, c, rfl, _⟩ := HasR.shape h rfl
  clear hr h
  go_enter Try.func34, Try.ntmps34
  go_wp2_with fail
  refine HC.out.mono ?_
  rintro e w1 ⟨i, rfl, hi, hb1⟩
  cases r with
  | true =>
    have h0 : ¬ 0 ≤ i := fun h => by have := hi.1 h; cases this
    have hd : decide (0 ≤ i) = false := by simpa using h0
    go_wp2
    go_ret
    exact ⟨ret_bool (by first | exact hd | simp), hb1⟩
  | false =>
    have h0 : 0 ≤ i := hi.2 rfl
    have hd : decide (0 ≤ i) = true := by simpa using h0
    go_wp2
    go_ret
    exact ⟨ret_bool (by first | exact hd | simp), hb1⟩
set_option maxRecDepth 20000 in
/-- impl.IsFreeSignature -/
theorem iFree_any (P : List (List UInt8)) (Q : List (Int × Int)) (O : List OpM) (va vb vc : Value) (r : Bool) (hr : freeB P Q O = r) (w : World) (h : HasG w va vb vc P Q O) :
    Calls Try.prog 15 #[.agg #[va, vb, vc]] w fun e w' => e = .returned (.bool r) ∧ Below w.heap.size w w' := by
  have HIS := Lib.hid (fun r hr W (hW : Below w.heap.size w W) => iIsSig_any P Q O va vb vc r hr W (h.below (Nat.le_refl _) hW))
  obtain ⟨A, ca, B, cb, C, cc, rfl, rfl, rfl, hl1, hl2, hl3, h'⟩ := h.shape
  have HCF := Lib.hid (fun r hr W (hW : Below w.heap.size w W) => containsFunc_any O _ r hr W (h'.below (Nat.le_refl _) hW).o)
  clear h h'
  rw [freeB] at hr
  cases hok : sigOk P Q O with
  | false =>
    have HR : Hid (r = false) := Lib.hid (by rw [← hr, hok]; rfl)
    have HI := Lib.hid (HIS.out false hok)
    clear hok hr
    go_enter Try.func15, Try.ntmps15
    go_wp2_with fail
    refine (HI.out _ ((Below.refl _ _).alloc (Nat.le_refl _) _)).mono ?_
    rintro e w1 ⟨rfl, hb1⟩
    go_wp2
    go_ret
    exact ⟨ret_bool HR.out.symm, ((Below.refl _ _).alloc (Nat.le_refl _) _).trans (hb1.mono (by simp))⟩
  | true =>
    have HI := Lib.hid (HIS.out true hok)
    have HC := Lib.hid (HCF.out r (by rw [← hr, hok]; rfl))
    clear hok hr
    go_enter Try.func15, Try.ntmps15
    go_wp2_with fail
    refine (HI.out _ ((Below.refl _ _).alloc (Nat.le_refl _) _)).mono ?_
    rintro e w1 ⟨rfl, hb1⟩
    have c2 : w1.cell? ⟨w.heap.size, 2, none⟩ = some (.slice C O.length cc) := by rw [hb1.cell (p := ⟨w.heap.size, 2, none⟩) (by simp)]; simp
    have hbw1 : Below w.heap.size w w1 := ((Below.refl _ _).alloc (Nat.le_refl _) _).trans (hb1.mono (by simp))
    clear hb1
    go_wp2_with fail
    refine (HC.out _ hbw1).mono ?_
    rintro e w2 ⟨rfl, hb2⟩
    go_wp2
    go_ret
    exact ⟨ret_bool (by simp), hbw1.trans (hb2.mono hbw1.size)⟩
end Go.Proofs.Ytejkkdnjdfehjaa.sigz
