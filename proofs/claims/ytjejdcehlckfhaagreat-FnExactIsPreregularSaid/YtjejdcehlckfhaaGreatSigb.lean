/-
  THE MODEL's FUNCTIONS OF SIGNATURES: IsSignature, FindOp, ArityOf, IsFreeSignature.
-/
import Derived.Test.YtjejdcehlckfhaaGreatSiga
import Derived.Test.YtjejdcehlckfhaaGreatSigv
namespace Go.Proofs.YtjejdcehlckfhaaGreat.sigb
open Go.ChangeShapes Go.WideShapes Go.ChangeAt Go.RowKit
open mem split strl join subs sortn setm sets sortm sortp sorti sortf sortu sorts sortg rowl sigm sigs sigi sigj sigl siga sigr sigv
theorem sigOk_sorts {P : List (List UInt8)} {Q : List (Int × Int)} {O : List OpM} (h : okS P Q = false) : sigOk P Q O = false := by rw [sigOk, h]; rfl
theorem sigOk_len {P : List (List UInt8)} {Q : List (Int × Int)} {O : List OpM} (h : 14 < O.length) : sigOk P Q O = false := by
  have : ¬ O.length ≤ 14 := by omega
  simp [sigOk, opsOk, this]
theorem sigOk_name {P : List (List UInt8)} {Q : List (Int × Int)} {O : List OpM} {k : Nat} (hk : k < O.length) (h : nameOk (O.getD k default).name = false ∨ (O.getD k default).name ∈ (nms O).take k) : sigOk P Q O = false := by
  have : namesTo (nms O) O.length = false := namesTo_bad _ k _ hk (by rw [nms_get O k hk]; exact h)
  simp [sigOk, opsOk, this]
theorem sigOk_decls {P : List (List UInt8)} {Q : List (Int × Int)} {O : List OpM} {k : Nat} (hk : k < O.length) (h : declsOk P.length (κK P.length Q) (O.getD k default).decls = false) : sigOk P Q O = false := by
  have : (O.all fun o => declsOk P.length (κK P.length Q) o.decls) = false := by
    rw [List.all_eq_false]
    refine ⟨O[k], List.getElem_mem hk, ?_⟩
    have e : O.getD k default = O[k] := by simp [List.getD, List.getElem?_eq_getElem hk]
    rw [← e, h]; simp
  simp [sigOk, opsOk, this]
theorem sigOk_ax {P : List (List UInt8)} {Q : List (Int × Int)} {O : List OpM} {k : Nat} (hk : k < O.length) (h : axOk (κK P.length Q) O (O.getD k default) = false) : sigOk P Q O = false := by
  have : O.all (axOk (κK P.length Q) O) = false := by
    rw [List.all_eq_false]
    refine ⟨O[k], List.getElem_mem hk, ?_⟩
    have e : O.getD k default = O[k] := by simp [List.getD, List.getElem?_eq_getElem hk]
    rw [← e, h]; simp
  simp [sigOk, opsOk, this]
theorem all_get {O : List OpM} {f : OpM → Bool} (h : ∀ k, k < O.length → f (O.getD k default) = true) : ∀ o ∈ O, f o = true := by
  intro o ho
  obtain ⟨k, hk, rfl⟩ := List.getElem_of_mem ho
  have := h k hk
  simpa [List.getD, List.getElem?_eq_getElem hk] using this
theorem sigOk_good {P : List (List UInt8)} {Q : List (Int × Int)} {O : List OpM} (h1 : okS P Q = true) (h2 : O.length ≤ 14) (h3 : namesTo (nms O) O.length = true) (h4 : ∀ o ∈ O, declsOk P.length (κK P.length Q) o.decls = true) (h5 : ∀ o ∈ O, axOk (κK P.length Q) O o = true) : sigOk P Q O = true := by
  simp only [sigOk, opsOk, Bool.and_eq_true, List.all_eq_true, decide_eq_true_eq]
  exact ⟨h1, ⟨⟨h2, h3⟩, h4⟩, h5⟩
set_option maxRecDepth 100000 in
set_option maxHeartbeats 8000000 in
/-- spec.IsSignature -/
theorem sIsSig_any (P : List (List UInt8)) (Q : List (Int × Int)) (O : List OpM) (va vb vc : Value) (r : Bool) (hr : sigOk P Q O = r) (w : World) (h : HasG w va vb vc P Q O) :
    Calls Tryz.prog 50 #[.agg #[va, vb, vc]] w fun e w' => e = .returned (.bool r) ∧ Below w.heap.size w w' := by
  have HSS := Lib.hid (fun r hr W (hW : Below w.heap.size w W) => sIsSorts_any P Q va vb r hr W (h.below (Nat.le_refl _) hW).s)
  obtain ⟨A, ca, B, cb, C, cc, rfl, rfl, rfl, hl1, hl2, hl3, h'⟩ := h.shape
  have HGG := Lib.hid (fun W (hW : Below w.heap.size w W) => h'.below (Nat.le_refl _) hW)
  have HSH := Lib.hid (names_short h'.o)
  obtain ⟨n, hn⟩ : ∃ n, n = O.length := ⟨_, rfl⟩
  have HN := Lib.hid hn
  rw [← hn] at hl3 HGG ⊢
  have HR := Lib.hid hr
  clear h h' hn hr
  cases hok : okS P Q with
  | false =>
    have HR2 : Hid (r = false) := Lib.hid (by rw [← HR.out]; exact sigOk_sorts hok)
    have HS := Lib.hid (HSS.out false hok)
    clear hok
    go_enter Tryz.func50, Tryz.ntmps50
    go_wp2_with fail
    refine (HS.out _ ((Below.refl _ _).alloc (Nat.le_refl _) _)).mono ?_
    rintro e w1 ⟨rfl, hb1⟩
    go_wp2
    go_ret
    exact ⟨ret_bool HR2.out.symm, ((Below.refl _ _).alloc (Nat.le_refl _) _).trans (hb1.mono (by simp))⟩
  | true =>
    have HS := Lib.hid (HSS.out true hok)
    have HOK := Lib.hid hok
    clear hok
    go_enter Tryz.func50, Tryz.ntmps50
    go_wp2_with fail
    refine (HS.out _ ((Below.refl _ _).alloc (Nat.le_refl _) _)).mono ?_
    rintro e w1 ⟨rfl, hb1⟩
    have hbw1 : Below w.heap.size w w1 := ((Below.refl _ _).alloc (Nat.le_refl _) _).trans (hb1.mono (by simp))
    have hs1 : w.heap.size < w1.heap.size := by have := hb1.size; simp at this; omega
    have s0 : w1.cell? ⟨w.heap.size, 0, none⟩ = some (.slice A P.length ca) := by rw [hb1.cell (p := ⟨w.heap.size, 0, none⟩) (by simp)]; simp
    have s1 : w1.cell? ⟨w.heap.size, 1, none⟩ = some (.slice B Q.length cb) := by rw [hb1.cell (p := ⟨w.heap.size, 1, none⟩) (by simp)]; simp
    have s2 : w1.cell? ⟨w.heap.size, 2, none⟩ = some (.slice C n cc) := by rw [hb1.cell (p := ⟨w.heap.size, 2, none⟩) (by simp)]; simp
    have HG1 := Lib.hid (HGG.out _ hbw1)
    clear hb1
    by_cases hbig : 14 < n
    · have HR2 : Hid (r = false) := Lib.hid (by rw [← HR.out]; exact sigOk_len (by have := HN.out; omega))
      go_wp2
      go_ret
      exact ⟨ret_bool HR2.out.symm, hbw1⟩
    have HBW1 := Lib.hid hbw1
    clear hbw1
    go_wp2_with fail
    go_loopw [3] (fun i wr => ∃ k : Nat, k ≤ n ∧ i = .int .i64 k ∧ Hid (namesTo (nms O) k = true ∧ ∀ j, j < k → declsOk P.length (κK P.length Q) (O.getD j default).decls = true) ∧ Below w1.heap.size w1 wr) (fun i _ => n - (intOf i).toNat)
    case atStart => exact ⟨0, Nat.zero_le _, rfl, Lib.hid ⟨rfl, fun j hj => by omega⟩, Below.refl _ _⟩
    case round =>
      obtain ⟨k, hk, rfl, HALL, hbel⟩ := hrel
      have hszr := hbel.size
      have hzr : w.heap.size < wr.heap.size := by omega
      have s0r : wr.cell? ⟨w.heap.size, 0, none⟩ = some (.slice A P.length ca) := (hbel.cell (by exact hs1)).trans s0
      have s1r : wr.cell? ⟨w.heap.size, 1, none⟩ = some (.slice B Q.length cb) := (hbel.cell (by exact hs1)).trans s1
      have s2r : wr.cell? ⟨w.heap.size, 2, none⟩ = some (.slice C n cc) := (hbel.cell (by exact hs1)).trans s2
      by_cases hlt : k < n
      · obtain ⟨g, o, A2, c2, rfl, _, hg, hc0, hc1, hc2, hc3, hc4, hh, hnl, hu64⟩ := op_at HG1.out.o hlt
        have kw : ∀ x, w1.cell? ⟨g, x, none⟩ = wr.cell? ⟨g, x, none⟩ := fun x => (hbel.cell (p := ⟨g, x, none⟩) hg).symm
        rw [kw] at hc0 hc1 hc2 hc3 hc4
        have hgr : g < wr.heap.size := by omega
        have HB1 : Hid (nameOk (O.getD k default).name = false → r = false) := Lib.hid (fun hb => by rw [← HR.out]; exact sigOk_name (by have := HN.out; omega) (.inl hb))
        have HB2 : Hid (declsOk P.length (κK P.length Q) (O.getD k default).decls = false → r = false) := Lib.hid (fun hb => by rw [← HR.out]; exact sigOk_decls (by have := HN.out; omega) hb)
        have HB3 : Hid ((O.getD k default).name ∈ (nms O).take k → r = false) := Lib.hid (fun hb => by rw [← HR.out]; exact sigOk_name (by have := HN.out; omega) (.inr hb))
        have HGOOD : Hid (nameOk (O.getD k default).name = true → declsOk P.length (κK P.length Q) (O.getD k default).decls = true → (O.getD k default).name ∉ (nms O).take k →
            namesTo (nms O) (k + 1) = true ∧ ∀ j, j < k + 1 → declsOk P.length (κK P.length Q) (O.getD j default).decls = true) := Lib.hid (fun h1 h2 h3 => by
          refine ⟨?_, fun j hj => ?_⟩
          · rw [namesTo_succ, HALL.out.1, nms_get O k (by have := HN.out; omega), h1, decide_eq_false h3]; rfl
          · by_cases e : j = k
            · subst e; exact h2
            · exact HALL.out.2 j (by omega))
        obtain ⟨⟨nm, D, a, b, u⟩, hd⟩ : ∃ d, d = O.getD k default := ⟨_, rfl⟩
        rw [← hd] at hc0 hc1 hc2 hc3 hc4 hh hnl HB1 HB2 HB3 HGOOD
        have HNA := Lib.hid (fun r hr W => sName_any nm hnl r hr W)
        have HDEC : Hid (∀ r W, declsOk P.length (κK P.length Q) D = r → Below w1.heap.size w1 W → Calls Tryz.prog 99 #[.agg #[.slice A P.length ca, .slice B Q.length cb, .slice (some ⟨g, o, none⟩) n cc], .agg #[.string (bstr nm), .slice A2 D.length c2, .bool a, .bool b, .int .i64 u]] W fun e w' => e = .returned (.bool r) ∧ Below W.heap.size W w') :=
          Lib.hid (fun r W hr hW => l4Decls_any P Q HOK.out _ _ _ n cc nm D _ a b u r hr W (HG1.out.below (Nat.le_refl _) hW).s (hh.below RD_steady (Nat.le_refl _) hW))
        obtain ⟨dn, hdn⟩ : ∃ dn, dn = D.length := ⟨_, rfl⟩
        rw [← hdn] at HDEC
        have hc1' : wr.cell? ⟨g, o + k * 5 + 1, none⟩ = some (.slice A2 dn c2) := by rw [hdn]; exact hc1
        clear hh hd kw hnl hu64 hdn hc1
        cases hnm : nameOk nm with
        | false =>
          have HR2 := Lib.hid (HB1.out hnm)
          have HN1 := Lib.hid (fun W => HNA.out false hnm W)
          clear hnm
          go_wp2
          go_quiet ((go_at_call 98; exact (HN1.out _).mono (fun _ _ h => ⟨h.1, _, h.2.symm⟩)))
          go_wp2
          go_ret
          exact ⟨ret_bool HR2.out.symm, by first | exact below_drewN (HBW1.out.trans (hbel.mono HBW1.out.size)) _ | exact HBW1.out.trans (hbel.mono HBW1.out.size)⟩
        | true =>
          have HN1 := Lib.hid (fun W => HNA.out true hnm W)
          have HNMO := Lib.hid hnm
          clear hnm
          obtain ⟨q, hq⟩ : ∃ q, declsOk P.length (κK P.length Q) D = q := ⟨_, rfl⟩
          have HD1 := Lib.hid (fun W hW => HDEC.out q W hq hW)
          have HQ := Lib.hid hq
          clear hq
          go_wp2_with fail
          obtain ⟨wo, rfl⟩ : ∃ wo, wo = wr := ⟨wr, rfl⟩
          refine region_boxC (C := fun w' => Below wo.heap.size wo w') (by kernel_rfl) (by kernel_rfl) (Below.refl _ _).drew ?_
          have nb : Nonempty (BoxC fun w' => Below wo.heap.size wo w') := ⟨⟨_, Below.refl _ _⟩⟩
          have r0 : ∀ t : BoxC (fun w' => Below wo.heap.size wo w'), t.W.cell? ⟨w.heap.size, 0, none⟩ = some (.slice A P.length ca) := fun t => (t.h.cell (by exact hzr)).trans s0r
          have r1 : ∀ t : BoxC (fun w' => Below wo.heap.size wo w'), t.W.cell? ⟨w.heap.size, 1, none⟩ = some (.slice B Q.length cb) := fun t => (t.h.cell (by exact hzr)).trans s1r
          have r2 : ∀ t : BoxC (fun w' => Below wo.heap.size wo w'), t.W.cell? ⟨w.heap.size, 2, none⟩ = some (.slice (some ⟨g, o, none⟩) n cc) := fun t => (t.h.cell (by exact hzr)).trans s2r
          have r3 : ∀ t : BoxC (fun w' => Below wo.heap.size wo w'), t.W.cell? ⟨g, o + k * 5, none⟩ = some (.string (bstr nm)) := fun t => (t.h.cell (by exact hgr)).trans hc0
          have r4 : ∀ t : BoxC (fun w' => Below wo.heap.size wo w'), t.W.cell? ⟨g, o + k * 5 + 1, none⟩ = some (.slice A2 dn c2) := fun t => (t.h.cell (by exact hgr)).trans hc1'
          have r5 : ∀ t : BoxC (fun w' => Below wo.heap.size wo w'), t.W.cell? ⟨g, o + k * 5 + 2, none⟩ = some (.bool a) := fun t => (t.h.cell (by exact hgr)).trans hc2
          have r6 : ∀ t : BoxC (fun w' => Below wo.heap.size wo w'), t.W.cell? ⟨g, o + k * 5 + 3, none⟩ = some (.bool b) := fun t => (t.h.cell (by exact hgr)).trans hc3
          have r7 : ∀ t : BoxC (fun w' => Below wo.heap.size wo w'), t.W.cell? ⟨g, o + k * 5 + 4, none⟩ = some (.int .i64 u) := fun t => (t.h.cell (by exact hgr)).trans hc4
          repeat (go_big_quiet_step (first
            | (go_at_call 98; exact (HN1.out _).mono (fun _ _ h => ⟨h.1, _, by first | exact h.2 | exact h.2.symm⟩))
            | (go_at_call 99; exact (HD1.out _ (hbel.trans (Below.mono (BoxC.h _) hszr))).mono (fun _ _ h => ⟨h.1, ⟨_, Below.trans (BoxC.h _) (h.2.mono (Below.size (BoxC.h _)))⟩, rfl⟩))))
          refine wpQuiet_nil ?_
          rintro w5 ⟨⟨W8, hW8⟩, hw5⟩
          have hw5' : w5 = W8 := hw5
          subst hw5'
          clear hw5 r0 r1 r2 r3 r4 r5 r6 r7 nb
          have hb15 : Below w1.heap.size w1 w5 := hbel.trans (hW8.mono hszr)
          have hsz5 : w1.heap.size ≤ w5.heap.size := hb15.size
          have S0 : w5.cell? ⟨w.heap.size, 0, none⟩ = some (.slice A P.length ca) := (hW8.cell (by exact hzr)).trans s0r
          have S1 : w5.cell? ⟨w.heap.size, 1, none⟩ = some (.slice B Q.length cb) := (hW8.cell (by exact hzr)).trans s1r
          have S2 : w5.cell? ⟨w.heap.size, 2, none⟩ = some (.slice (some ⟨g, o, none⟩) n cc) := (hW8.cell (by exact hzr)).trans s2r
          have C0 : w5.cell? ⟨g, o + k * 5, none⟩ = some (.string (bstr nm)) := (hW8.cell (by exact hgr)).trans hc0
          have HB15 := Lib.hid hb15
          have HBW5 := Lib.hid (HBW1.out.trans (hb15.mono HBW1.out.size))
          clear s0r s1r s2r hc0 hc1' hc2 hc3 hc4 hW8 hb15 hbel hgr hzr hszr s0 s1 s2
          cases q with
          | false =>
            have HR2 := Lib.hid (HB2.out HQ.out)
            go_wp2
            go_ret
            exact ⟨ret_bool HR2.out.symm, HBW5.out⟩
          | true =>
            go_wp2_with fail
            go_loopw [4] (fun i wr => ∃ q : Nat, q ≤ k ∧ i = .int .i64 q ∧ Hid (nm ∉ (nms O).take q) ∧ Below w5.heap.size w5 wr) (fun i _ => k - (intOf i).toNat)
            case atStart => exact ⟨0, Nat.zero_le _, rfl, Lib.hid (by simp), Below.refl _ _⟩
            case round =>
              obtain ⟨q, hq, rfl, HNI, hbq⟩ := hrel
              have hzq : w.heap.size < w5.heap.size := by omega
              have hgq : g < w5.heap.size := by omega
              have T2 : wr.cell? ⟨w.heap.size, 2, none⟩ = some (.slice (some ⟨g, o, none⟩) n cc) := (hbq.cell (by exact hzq)).trans S2
              have D0 : wr.cell? ⟨g, o + k * 5, none⟩ = some (.string (bstr nm)) := (hbq.cell (by exact hgq)).trans C0
              by_cases hqk : q < k
              · obtain ⟨g', o', A6, c6, hge, _, hg6, e0, _, _, _, _, _, _, _⟩ := op_at HG1.out.o (j := q) (by omega)
                simp only [Option.some.injEq, Addr.mk.injEq, and_true] at hge
                obtain ⟨rfl, rfl⟩ := hge
                rw [← HB15.out.cell (p := ⟨g, o + q * 5, none⟩) hg6, ← hbq.cell (p := ⟨g, o + q * 5, none⟩) hgq] at e0
                have HNX : Hid (¬ (O.getD q default).name = nm → nm ∉ (nms O).take (q + 1)) := Lib.hid (fun hx => take_not (by rw [nms_len]; have := HN.out; omega) HNI.out (by rw [nms_get O q (by have := HN.out; omega)]; exact hx))
                have HNB : Hid ((O.getD q default).name = nm → r = false) := Lib.hid (fun hx => HB3.out (by
                  rw [← hx, ← nms_get O q (by have := HN.out; omega)]
                  have hq' : q < (nms O).length := by rw [nms_len]; have := HN.out; omega
                  rw [List.getD_eq_getElem?_getD, List.getElem?_eq_getElem hq', List.mem_iff_getElem?]
                  exact ⟨q, by rw [List.getElem?_take, if_pos hqk, List.getElem?_eq_getElem hq']; rfl⟩))
                obtain ⟨x, hx⟩ : ∃ x, x = (O.getD q default).name := ⟨_, rfl⟩
                rw [← hx] at e0 HNX HNB
                clear hx
                by_cases hxy : x = nm
                · subst hxy
                  have HR2 := Lib.hid (HNB.out rfl)
                  go_wp2
                  go_quiet (fail)
                  go_wp2
                  go_ret
                  exact ⟨ret_bool HR2.out.symm, by first | exact below_drewN (HBW5.out.trans (hbq.mono HBW5.out.size)) _ | exact HBW5.out.trans (hbq.mono HBW5.out.size)⟩
                · have hne : ((bstr x).toList == (bstr nm).toList) = false := by rw [bstr_eq]; simpa using hxy
                  have HN2 := Lib.hid (HNX.out hxy)
                  clear hxy
                  go_wp2
                  go_quiet (fail)
                  go_wp2
                  go_roundw
                  case rel => exact ⟨q + 1, by omega, by go_num, HN2, by first | exact hbq | exact below_drewN hbq _⟩
                  case measure => simp [intOf]; omega
              · obtain rfl : q = k := by omega
                have HG := Lib.hid (HGOOD.out HNMO.out HQ.out HNI.out)
                go_wp2
                go_roundw
                case rel => exact ⟨q + 1, by omega, by go_num, HG, HB15.out.trans (hbq.mono hsz5)⟩
                case measure => simp [intOf]; omega
      · obtain rfl : k = n := by omega
        have HDA : Hid (∀ o ∈ O, declsOk P.length (κK P.length Q) o.decls = true) := Lib.hid (all_get (f := fun o => declsOk P.length (κK P.length Q) o.decls) (fun j hj => HALL.out.2 j (by have := HN.out; omega)))
        have HNMS : Hid (namesTo (nms O) O.length = true) := Lib.hid (by rw [← HN.out]; exact HALL.out.1)
        have HAX : Hid (∀ (i : Nat) (W : World) (q : Bool), i < k → axOk (κK P.length Q) O (O.getD i default) = q → Below w1.heap.size w1 W → Calls Tryz.prog 100 #[.agg #[.slice A P.length ca, .slice B Q.length cb, .slice C k cc], .int .i64 (i : Int)] W fun e w' => e = .returned (.bool q) ∧ Below W.heap.size W w') :=
          Lib.hid (fun i W q hi hq hW => l4Axioms_any P Q HOK.out O HDA.out _ _ _ i (by have := HN.out; omega) q hq W (HG1.out.below (Nat.le_refl _) hW))
        have HBWR := Lib.hid hbel
        obtain ⟨wo, rfl⟩ : ∃ wo, wo = wr := ⟨wr, rfl⟩
        clear s0 s1 s2
        go_wp2_with fail
        go_loopw [5] (fun i wr => ∃ q : Nat, q ≤ k ∧ i = .int .i64 q ∧ Hid (∀ j, j < q → axOk (κK P.length Q) O (O.getD j default) = true) ∧ Below wo.heap.size wo wr) (fun i _ => k - (intOf i).toNat)
        case atStart => exact ⟨0, Nat.zero_le _, rfl, Lib.hid (fun j hj => by omega), Below.refl _ _⟩
        case round =>
          obtain ⟨q, hq, rfl, HAA, hbq⟩ := hrel
          have T0 : wr.cell? ⟨w.heap.size, 0, none⟩ = some (.slice A P.length ca) := (hbq.cell (by exact hzr)).trans s0r
          have T1 : wr.cell? ⟨w.heap.size, 1, none⟩ = some (.slice B Q.length cb) := (hbq.cell (by exact hzr)).trans s1r
          have T2 : wr.cell? ⟨w.heap.size, 2, none⟩ = some (.slice C k cc) := (hbq.cell (by exact hzr)).trans s2r
          have hb1r : Below w1.heap.size w1 wr := HBWR.out.trans (hbq.mono hszr)
          have HBWF := Lib.hid (HBW1.out.trans (hb1r.mono HBW1.out.size))
          by_cases hqk : q < k
          · cases hax : axOk (κK P.length Q) O (O.getD q default) with
            | false =>
              have HR2 : Hid (r = false) := Lib.hid (by rw [← HR.out]; exact sigOk_ax (by have := HN.out; omega) hax)
              have HC := Lib.hid (HAX.out q wr false hqk hax hb1r)
              clear hax
              go_wp2_with fail
              refine HC.out.mono ?_
              rintro e w6 ⟨rfl, hb6⟩
              go_wp2
              go_ret
              exact ⟨ret_bool HR2.out.symm, HBWF.out.trans (hb6.mono HBWF.out.size)⟩
            | true =>
              have HC := Lib.hid (HAX.out q wr true hqk hax hb1r)
              have HAQ := Lib.hid hax
              clear hax
              go_wp2_with fail
              refine HC.out.mono ?_
              rintro e w6 ⟨rfl, hb6⟩
              go_wp2
              go_roundw
              case rel =>
                refine ⟨q + 1, by omega, by go_num, Lib.hid (fun j hj => ?_), hbq.trans (hb6.mono hbq.size)⟩
                by_cases e : j = q
                · subst e; exact HAQ.out
                · exact HAA.out j (by omega)
              case measure => simp [intOf]; omega
          · obtain rfl : q = k := by omega
            have HR2 : Hid (r = true) := Lib.hid (by
              rw [← HR.out]
              exact sigOk_good HOK.out (by have := HN.out; omega) HNMS.out HDA.out (all_get (f := axOk (κK P.length Q) O) (fun j hj => HAA.out j (by have := HN.out; omega))))
            go_wp2
            go_ret
            exact ⟨ret_bool HR2.out.symm, HBWF.out⟩
end Go.Proofs.YtjejdcehlckfhaaGreat.sigb
