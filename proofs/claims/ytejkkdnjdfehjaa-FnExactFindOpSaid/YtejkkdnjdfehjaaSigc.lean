/-
  THE MODEL's FUNCTIONS OF SIGNATURES: FindOp, ArityOf, IsFreeSignature.
-/
import Derived.Test.YtejkkdnjdfehjaaSigb
namespace Go.Proofs.Ytejkkdnjdfehjaa.sigc
open Go.ChangeShapes Go.WideShapes Go.ChangeAt Go.RowKit
open mem split strl join subs sortn setm sets sortm sortp sorti sortf sortu sorts sortg rowl sigm sigs sigi sigj sigl siga sigb

set_option maxRecDepth 100000 in
set_option maxHeartbeats 2000000 in
/-- spec.FindOp -/
theorem sFind_any (P : List (List UInt8)) (Q : List (Int × Int)) (O : List OpM) (va vb vc : Value) (x : List UInt8) (w : World) (h : HasG w va vb vc P Q O) :
    Calls Try.prog 8 #[.agg #[va, vb, vc], .string (bstr x)] w fun e w' => e = .returned (.int .i64 (findI P Q O x)) ∧ Below w.heap.size w w' := by
  have HIS := Lib.hid (fun r hr W (hW : Below w.heap.size w W) => sIsSig_any P Q O va vb vc r hr W (h.below (Nat.le_refl _) hW))
  obtain ⟨A, ca, B, cb, C, cc, rfl, rfl, rfl, hl1, hl2, hl3, h'⟩ := h.shape
  have HOO := Lib.hid h'.o
  obtain ⟨R, hR⟩ : ∃ R, R = findI P Q O x := ⟨_, rfl⟩
  rw [← hR]
  have HR := Lib.hid hR
  obtain ⟨n, hn⟩ : ∃ n, n = O.length := ⟨_, rfl⟩
  have HN := Lib.hid hn
  rw [← hn] at hl3 HOO HIS ⊢
  clear h h' hn hR
  go_enter Try.func8, Try.ntmps8
  go_wp2
  go_loopw [5] (fun i wr => ∃ k : Nat, k ≤ n ∧ i = .int .i64 k ∧ Hid (k = 0 ∨ sigOk P Q O = true) ∧ Hid (x ∉ (nms O).take k) ∧ (wr.cell? ⟨w.heap.size, 0, none⟩ = some (.slice A P.length ca) ∧ wr.cell? ⟨w.heap.size, 1, none⟩ = some (.slice B Q.length cb) ∧ wr.cell? ⟨w.heap.size, 2, none⟩ = some (.slice C n cc)) ∧
      w.heap.size < wr.heap.size ∧ Below w.heap.size w wr) (fun i _ => n - (intOf i).toNat)
  case atStart => exact ⟨0, Nat.zero_le _, rfl, Lib.hid (.inl rfl), Lib.hid (by simp), ⟨by simp, by simp, by simp⟩, by simp, (Below.refl _ _).alloc (Nat.le_refl _) _⟩
  case round =>
    obtain ⟨k, hk, rfl, HK0, HNI, ⟨s0, s1, s2⟩, hsz, hbel⟩ := hrel
    by_cases hlt : k < n
    · cases hok : sigOk P Q O with
      | false =>
        have HR2 : Hid (R = -1) := Lib.hid (by rw [HR.out, findI, hok]; rfl)
        have HI := Lib.hid (HIS.out false hok wr hbel)
        clear hok
        go_wp2_with fail
        refine HI.out.mono ?_
        rintro e w2 ⟨rfl, hb2⟩
        go_wp2
        go_ret
        exact ⟨ret_int HR2.out.symm, hbel.trans (hb2.mono hbel.size)⟩
      | true =>
        have HI := Lib.hid (HIS.out true hok wr hbel)
        have HOK := Lib.hid hok
        clear hok
        go_wp2_with fail
        refine HI.out.mono ?_
        rintro e w2 ⟨rfl, hb2⟩
        obtain ⟨g, o, A2, c2, rfl, _, hg, hc0, _, _, _, _, _, _, _⟩ := op_at HOO.out hlt
        have t0 : w2.cell? ⟨w.heap.size, 0, none⟩ = some (.slice A P.length ca) := (hb2.cell (by exact hsz)).trans s0
        have t1 : w2.cell? ⟨w.heap.size, 1, none⟩ = some (.slice B Q.length cb) := (hb2.cell (by exact hsz)).trans s1
        have t2 : w2.cell? ⟨w.heap.size, 2, none⟩ = some (.slice (some ⟨g, o, none⟩) n cc) := (hb2.cell (by exact hsz)).trans s2
        have hbw2 := hbel.trans (hb2.mono hbel.size)
        have hsz2 : w.heap.size < w2.heap.size := Nat.lt_of_lt_of_le hsz hb2.size
        rw [← hbw2.cell (p := ⟨g, o + k * 5, none⟩) hg] at hc0
        have HHIT : Hid ((O.getD k default).name = x → R = (k : Int)) := Lib.hid (fun e => by
          rw [HR.out, findI, if_pos HOK.out]
          exact opAt_hit (by rw [nms_len]; have := HN.out; omega) HNI.out (by rw [nms_get O k (by have := HN.out; omega)]; exact e))
        have HMISS : Hid (¬ (O.getD k default).name = x → x ∉ (nms O).take (k + 1)) := Lib.hid (fun e => take_not (by rw [nms_len]; have := HN.out; omega) HNI.out (by rw [nms_get O k (by have := HN.out; omega)]; exact e))
        obtain ⟨y, hy⟩ : ∃ y, y = (O.getD k default).name := ⟨_, rfl⟩
        rw [← hy] at hc0 HHIT HMISS
        clear hy hb2 s0 s1 s2
        by_cases hyx : y = x
        · subst hyx
          have HR2 := Lib.hid (HHIT.out rfl)
          go_wp2
          go_ret
          exact ⟨ret_int HR2.out.symm, hbw2⟩
        · have hne : ((bstr y).toList == (bstr x).toList) = false := by rw [bstr_eq]; simpa using hyx
          have HM := Lib.hid (HMISS.out hyx)
          clear hyx
          go_wp2
          go_roundw
          case rel => exact ⟨k + 1, by omega, by go_num, Lib.hid (.inr (by first | trivial | exact HOK.out)), HM, ⟨t0, t1, t2⟩, hsz2, hbw2⟩
          case measure => simp [intOf]; omega
    · obtain rfl : k = n := by omega
      have HR2 : Hid (R = -1) := Lib.hid (by
        rw [HR.out, findI]
        have h1 := HNI.out
        rw [List.take_of_length_le (by rw [nms_len]; have := HN.out; omega)] at h1
        rw [opAt_miss h1]
        split <;> rfl)
      go_wp2
      go_ret
      exact ⟨ret_int HR2.out.symm, hbel⟩
set_option maxRecDepth 100000 in
set_option maxHeartbeats 2000000 in
/-- spec.ArityOf -/
theorem sArity_any (P : List (List UInt8)) (Q : List (Int × Int)) (O : List OpM) (va vb vc : Value) (x : Int) (w : World) (h : HasG w va vb vc P Q O) :
    Calls Try.prog 12 #[.agg #[va, vb, vc], .int .i64 x] w fun e w' => e = .returned (.int .i64 (arI P Q O x)) ∧ Below w.heap.size w w' := by
  have HIS := Lib.hid (fun r hr W (hW : Below w.heap.size w W) => sIsSig_any P Q O va vb vc r hr W (h.below (Nat.le_refl _) hW))
  obtain ⟨A, ca, B, cb, C, cc, rfl, rfl, rfl, hl1, hl2, hl3, h'⟩ := h.shape
  have HOO := Lib.hid (fun W (hW : Below w.heap.size w W) => (h'.below (Nat.le_refl _) hW).o)
  obtain ⟨n, hn⟩ : ∃ n, n = O.length := ⟨_, rfl⟩
  have HN := Lib.hid hn
  rw [← hn] at hl3 HOO HIS ⊢
  clear h h' hn
  cases hok : sigOk P Q O with
  | false =>
    have HQ : Hid (arI P Q O x = -1) := Lib.hid (by rw [arI, if_neg (by simp [hok])])
    have HI := Lib.hid (HIS.out false hok)
    clear hok
    go_enter Try.func12, Try.ntmps12
    go_wp2_with fail
    refine (HI.out _ ((Below.refl _ _).alloc (Nat.le_refl _) _)).mono ?_
    rintro e w1 ⟨rfl, hb1⟩
    go_wp2
    go_ret
    exact ⟨ret_int HQ.out.symm, ((Below.refl _ _).alloc (Nat.le_refl _) _).trans (hb1.mono (by simp))⟩
  | true =>
    have HI := Lib.hid (HIS.out true hok)
    have HIX := Lib.hid (fun r hr W => l1In_any x 0 ((n : Int) - 1) r hr W)
    simp only [inI_inN] at HIX
    by_cases hx : 0 ≤ x ∧ x < n
    · obtain ⟨k, rfl⟩ : ∃ k : Nat, x = (k : Int) := ⟨x.toNat, by omega⟩
      have hk : k < n := by omega
      have HQ : Hid (arI P Q O (k : Int) = (ar (O.getD k default) : Int)) := Lib.hid (by rw [arI, if_pos ⟨hok, by omega, by have := HN.out; omega⟩]; rfl)
      have hm : O.getD k default ∈ O := by rw [List.getD_eq_getElem?_getD, List.getElem?_eq_getElem (by have := HN.out; omega)]; exact List.getElem_mem _
      have HD1 := Lib.hid (declsOk_parts ((sigOk_parts hok).2.2.2.1 _ hm)).1
      have HX := Lib.hid (HIX.out true (by simpa [inN] using hx))
      clear hok hx hm
      go_enter Try.func12, Try.ntmps12
      go_wp2_with fail
      refine (HI.out _ ((Below.refl _ _).alloc (Nat.le_refl _) _)).mono ?_
      rintro e w1 ⟨rfl, hb1⟩
      have c2 : w1.cell? ⟨w.heap.size, 2, none⟩ = some (.slice C n cc) := by rw [hb1.cell (p := ⟨w.heap.size, 2, none⟩) (by simp)]; simp
      have hbw1 : Below w.heap.size w w1 := ((Below.refl _ _).alloc (Nat.le_refl _) _).trans (hb1.mono (by simp))
      clear hb1
      go_wp2_with fail
      refine (HX.out _).mono ?_
      rintro e w2 ⟨rfl, rfl⟩
      obtain ⟨g, o, A2, c3, rfl, _, hg, hc0, hc1, hc2, hc3, hc4, hh, _, _⟩ := op_at (HOO.out _ hbw1) hk
      obtain ⟨⟨nm, D, a, b, u⟩, hd⟩ : ∃ d, d = O.getD k default := ⟨_, rfl⟩
      rw [← hd] at hc0 hc1 hc2 hc3 hc4 hh HD1 HQ
      have HA := Lib.hid (l4Arity_any nm D HD1.out _ a b u _ hh)
      have HQ' : Hid (arI P Q O (k : Int) = ((hd0 D).1.length : Int)) := Lib.hid HQ.out
      obtain ⟨dn, hdn⟩ : ∃ dn, dn = D.length := ⟨_, rfl⟩
      have hc1' : w1.cell? ⟨g, o + k * 5 + 1, none⟩ = some (.slice A2 dn c3) := by rw [hdn]; exact hc1
      rw [show (OpM.mk nm D a b u).decls.length = dn from hdn.symm] at HA
      clear hh hd hdn hc1 HD1
      go_wp2_with fail
      refine HA.out.mono ?_
      rintro e w2 ⟨rfl, hb2⟩
      go_wp2
      go_ret
      exact ⟨ret_int HQ'.out.symm, hbw1.trans (hb2.mono hbw1.size)⟩
    · have HQ : Hid (arI P Q O x = -1) := Lib.hid (by rw [arI, if_neg (by have := HN.out; omega)])
      have HX := Lib.hid (HIX.out false (by simpa [inN] using hx))
      clear hok hx
      go_enter Try.func12, Try.ntmps12
      go_wp2_with fail
      refine (HI.out _ ((Below.refl _ _).alloc (Nat.le_refl _) _)).mono ?_
      rintro e w1 ⟨rfl, hb1⟩
      have c2 : w1.cell? ⟨w.heap.size, 2, none⟩ = some (.slice C n cc) := by rw [hb1.cell (p := ⟨w.heap.size, 2, none⟩) (by simp)]; simp
      have hbw1 : Below w.heap.size w w1 := ((Below.refl _ _).alloc (Nat.le_refl _) _).trans (hb1.mono (by simp))
      clear hb1
      go_wp2_with fail
      refine (HX.out _).mono ?_
      rintro e w2 ⟨rfl, rfl⟩
      go_wp2
      go_ret
      exact ⟨ret_int HQ.out.symm, hbw1⟩
theorem unt_nonneg {P : List (List UInt8)} {Q : List (Int × Int)} {O : List OpM} (h : sigOk P Q O = true) : ∀ o ∈ O, 0 ≤ o.unt := by
  intro o ho
  have := (sigOk_parts h).2.2.2.2 o ho
  simp only [axOk, unitOk, Bool.and_eq_true, Bool.or_eq_true, decide_eq_true_eq] at this
  rcases this.2 with h1 | h1
  · omega
  · exact h1.1.1.1
theorem freeB_eq {P : List (List UInt8)} {Q : List (Int × Int)} {O : List OpM} (h : ∀ k, k < O.length → (O.getD k default).ass = false ∧ (O.getD k default).unt ≤ 0) : freeB P Q O = sigOk P Q O := by
  rw [freeB]
  cases hs : sigOk P Q O with
  | false => rfl
  | true =>
    have : O.all noAx = true := by
      rw [List.all_eq_true]
      refine all_get (f := noAx) (fun k hk => ?_)
      have h1 := h k hk
      have h2 := unt_nonneg hs (O.getD k default) (by rw [List.getD_eq_getElem?_getD, List.getElem?_eq_getElem hk]; exact List.getElem_mem hk)
      simp only [noAx, h1.1, Bool.not_false, Bool.true_and, decide_eq_true_eq]; omega
    rw [this]; rfl
theorem freeB_no {P : List (List UInt8)} {Q : List (Int × Int)} {O : List OpM} {k : Nat} (hk : k < O.length) (h : (O.getD k default).ass = true ∨ 0 < (O.getD k default).unt) : freeB P Q O = false := by
  have : O.all noAx = false := by
    rw [List.all_eq_false]
    refine ⟨O[k], List.getElem_mem hk, ?_⟩
    have e : O.getD k default = O[k] := by simp [List.getD, List.getElem?_eq_getElem hk]
    rw [e] at h
    rcases h with h | h
    · simp [noAx, h]
    · have : ¬ O[k].unt = 0 := by omega
      simp [noAx, this]
  rw [freeB, this]; simp
set_option maxRecDepth 100000 in
set_option maxHeartbeats 2000000 in
/-- spec.IsFreeSignature -/
theorem sFree_any (P : List (List UInt8)) (Q : List (Int × Int)) (O : List OpM) (va vb vc : Value) (r : Bool) (hr : freeB P Q O = r) (w : World) (h : HasG w va vb vc P Q O) :
    Calls Try.prog 14 #[.agg #[va, vb, vc]] w fun e w' => e = .returned (.bool r) ∧ Below w.heap.size w w' := by
  have HIS := Lib.hid (fun r hr W (hW : Below w.heap.size w W) => sIsSig_any P Q O va vb vc r hr W (h.below (Nat.le_refl _) hW))
  obtain ⟨A, ca, B, cb, C, cc, rfl, rfl, rfl, hl1, hl2, hl3, h'⟩ := h.shape
  have HOO := Lib.hid h'.o
  obtain ⟨n, hn⟩ : ∃ n, n = O.length := ⟨_, rfl⟩
  have HN := Lib.hid hn
  have HR := Lib.hid hr
  rw [← hn] at hl3 HOO HIS ⊢
  clear h h' hn hr
  go_enter Try.func14, Try.ntmps14
  go_wp2
  go_loop [3] (fun i => ∃ k : Nat, k ≤ n ∧ i = .int .i64 k ∧ Hid (∀ j, j < k → (O.getD j default).ass = false ∧ (O.getD j default).unt ≤ 0)) (fun i => n - (intOf i).toNat)
  case atStart => exact ⟨0, Nat.zero_le _, rfl, Lib.hid (fun j hj => by omega)⟩
  case round =>
    obtain ⟨k, hk, rfl, HALL⟩ := hrel
    by_cases hlt : k < n
    · obtain ⟨g, o, A2, c2, rfl, _, hg, hc0, hc1, hc2, hc3, hc4, _, _, _⟩ := op_at HOO.out hlt
      have HBAD : Hid ((O.getD k default).ass = true ∨ 0 < (O.getD k default).unt → r = false) := Lib.hid (fun hb => by rw [← HR.out]; exact freeB_no (by have := HN.out; omega) hb)
      have HGOOD : Hid ((O.getD k default).ass = false → (O.getD k default).unt ≤ 0 → ∀ j, j < k + 1 → (O.getD j default).ass = false ∧ (O.getD j default).unt ≤ 0) := Lib.hid (fun h1 h2 j hj => by
        by_cases e : j = k
        · subst e; exact ⟨h1, h2⟩
        · exact HALL.out j (by omega))
      obtain ⟨⟨nm, D, a, b, u⟩, hd⟩ : ∃ d, d = O.getD k default := ⟨_, rfl⟩
      rw [← hd] at hc2 hc4 HBAD HGOOD
      clear hc0 hc1 hc3 hd
      cases a with
      | true =>
        have HR2 := Lib.hid (HBAD.out (.inl rfl))
        go_wp2
        go_ret
        exact ⟨ret_bool HR2.out.symm, (Below.refl _ _).alloc (Nat.le_refl _) _⟩
      | false =>
        by_cases hu : 0 < u
        · have HR2 := Lib.hid (HBAD.out (.inr hu))
          go_wp2
          go_ret
          exact ⟨ret_bool HR2.out.symm, (Below.refl _ _).alloc (Nat.le_refl _) _⟩
        · have hd : decide (0 < u) = false := by simpa using hu
          have HG := Lib.hid (HGOOD.out rfl (by show u ≤ 0; omega))
          go_wp2
          go_round
          case rel => exact ⟨k + 1, by omega, by go_num, HG⟩
          case measure => simp [intOf]; omega
    · obtain rfl : k = n := by omega
      have HRS : Hid (sigOk P Q O = r) := Lib.hid (by rw [← HR.out]; exact (freeB_eq (fun j hj => HALL.out j (by have := HN.out; omega))).symm)
      have HI := Lib.hid (HIS.out r HRS.out)
      go_wp2_with fail
      refine (HI.out _ ((Below.refl _ _).alloc (Nat.le_refl _) _)).mono ?_
      rintro e w1 ⟨rfl, hb1⟩
      go_wp2
      go_ret
      exact ⟨rfl, ((Below.refl _ _).alloc (Nat.le_refl _) _).trans (hb1.mono (by simp))⟩
end Go.Proofs.Ytejkkdnjdfehjaa.sigc
