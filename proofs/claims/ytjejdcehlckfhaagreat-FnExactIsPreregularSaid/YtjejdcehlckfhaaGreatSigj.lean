/-
  THE PROGRAM's FUNCTIONS OF SIGNATURES: commonShape, opNames, opShapes.
-/
import Derived.Test.YtjejdcehlckfhaaGreatSigi
import Derived.Test.YtjejdcehlckfhaaGreatSigt
namespace Go.Proofs.YtjejdcehlckfhaaGreat.sigj
open Go.ChangeShapes Go.WideShapes Go.ChangeAt Go.RowKit
open mem split strl subs sortn setm sets sortm sortp sorti sortf rowl sigm sigs sigi

theorem shv_mk (a b c d f : Nat) : shv (a, b, c, d, f) = .agg #[.int .i64 (a : Int), .int .u16 (b : Int), .int .u16 (c : Int), .int .u16 (d : Int), .int .u16 (f : Int)] := rfl
theorem declsOk_bad {n : Nat} {κ : Int → Nat} {D : List (List Int × Int)} {j : Nat} (hj : j < D.length) (h : okD n (D.getD j default) = false ∨ ¬ kD κ (D.getD j default) = kD κ (hd0 D)) : declsOk n κ D = false := by
  have : (D.all fun d => okD n d && decide (kD κ d = kD κ (hd0 D))) = false := by
    rw [List.all_eq_false]
    refine ⟨D[j], List.getElem_mem hj, ?_⟩
    have e : D.getD j default = D[j] := by simp [List.getD, List.getElem?_eq_getElem hj]
    rw [e] at h
    rcases h with h | h
    · simp [h]
    · simp [h]
  simp [declsOk, this]
theorem declsOk_good {n : Nat} {κ : Int → Nat} {D : List (List Int × Int)} (h1 : 1 ≤ D.length) (h2 : D.length ≤ 4) (h3 : ∀ j, j < D.length → okD n (D.getD j default) = true ∧ kD κ (D.getD j default) = kD κ (hd0 D)) : declsOk n κ D = true := by
  simp only [declsOk, Bool.and_eq_true, decide_eq_true_eq, List.all_eq_true]
  refine ⟨⟨h1, h2⟩, fun d hd => ?_⟩
  obtain ⟨k, hk, rfl⟩ := List.getElem_of_mem hd
  have := h3 k hk
  have e : D.getD k default = D[k] := by simp [List.getD, List.getElem?_eq_getElem hk]
  rw [e] at this
  exact this
set_option maxRecDepth 20000 in
set_option maxHeartbeats 4000000 in
/-- impl.commonShape -/
theorem commonShape_any (U : List Nat) (hU : Lim U) (D : List (List Int × Int)) (r : Bool) (hr : declsOk U.length (κU U) D = r) (va mv : Value) (w : World) {lo : Nat} (h : HasD lo w va D) (hM : MapU w mv U) :
    Calls Tryz.prog 182 #[va, mv] w fun e w' => e = .returned (.tuple #[shv (shpR r (κU U) (hd0 D)), .bool r]) ∧ Below w.heap.size w w' := by
  have HSH : Hid (∀ (d : List Int × Int) (r : Bool) (va : Value) (W : World), I64 d.2 → (∀ y ∈ d.1, I64 y) → okD U.length d = r → Below w.heap.size w W → Has W va (ivs d.1) →
      Calls Tryz.prog 213 #[.agg #[va, .int .i64 d.2], mv] W fun e w' => e = .returned (.tuple #[shv (shpR r (κU U) d), .bool r]) ∧ Below W.heap.size W w') :=
    Lib.hid (fun d r va W h1 h2 hr hW hH => shapeOf_any U hU d.1 d.2 h1 h2 r hr va mv W hH (hM.below hW))
  obtain ⟨n, hn⟩ : ∃ n, n = D.length := ⟨_, rfl⟩
  obtain ⟨A, ca, rfl, h'⟩ := HasR.shape h hn.symm
  have hln := h'.len.2.1
  have hcap := h'.len.2.2
  have HH := Lib.hid h'
  have HN := Lib.hid hn
  clear h h' hn hM
  by_cases hlo : n < 1
  · have HR : Hid (r = false) := Lib.hid (by rw [← hr, declsOk]; have := HN.out; simp; omega)
    clear hr
    go_enter Tryz.func182, Tryz.ntmps182
    go_wp2
    refine bodyPost_ret (v := .tuple #[shv zsh, .bool false]) (by simp [results, Tryz.results182, go_sem, shv, zsh]) rfl ⟨by rw [HR.out]; rfl, ?_⟩
    repeat (first | exact Below.refl _ _ | refine Below.setCell ?_ (by first | (simp; done) | (simp; omega)) _ | refine Below.alloc ?_ (by first | (simp; done) | (simp; omega)) _)
  by_cases hhi : 4 < n
  · have HR : Hid (r = false) := Lib.hid (by rw [← hr, declsOk]; have := HN.out; simp; omega)
    clear hr
    go_enter Tryz.func182, Tryz.ntmps182
    go_wp2
    refine bodyPost_ret (v := .tuple #[shv zsh, .bool false]) (by simp [results, Tryz.results182, go_sem, shv, zsh]) rfl ⟨by rw [HR.out]; rfl, ?_⟩
    repeat (first | exact Below.refl _ _ | refine Below.setCell ?_ (by first | (simp; done) | (simp; omega)) _ | refine Below.alloc ?_ (by first | (simp; done) | (simp; omega)) _)
  obtain ⟨g, o, A2, c2, rfl, _, hg, hc0, hc1, hh, hi1, hi2⟩ := decl_at HH.out (j := 0) (by omega)
  have hd : D.getD 0 default = hd0 D := rfl
  rw [hd] at hc0 hc1 hh hi1 hi2
  rw [show o + 0 * 2 = o by omega] at hc0 hc1
  have HE0 := Lib.hid (And.intro hi1 hi2)
  have HD0 := Lib.hid hh.has
  obtain ⟨m, hm⟩ : ∃ m, m = (hd0 D).1.length := ⟨_, rfl⟩
  rw [← hm] at hc0 HD0
  obtain ⟨x, hx⟩ : ∃ x, x = (hd0 D).2 := ⟨_, rfl⟩
  rw [← hx] at hc1
  have HX := Lib.hid hx
  clear hh hi1 hi2 hd hm hx
  cases hok0 : okD U.length (hd0 D) with
  | false =>
    have HR : Hid (r = false) := Lib.hid (by rw [← hr]; exact declsOk_bad (j := 0) (by have := HN.out; omega) (.inl hok0))
    have HC := Lib.hid (fun va W hW hH => HSH.out (hd0 D) false va W HE0.out.1 HE0.out.2 hok0 hW hH)
    rw [← HX.out] at HC
    clear hok0 hr
    go_enter Tryz.func182, Tryz.ntmps182
    go_wp2_with fail
    refine (HC.out _ _ ((Below.refl _ _).alloc (Nat.le_refl _) _) (HD0.out.below (Nat.le_refl _) ((Below.refl _ _).alloc (Nat.le_refl _) _))).mono ?_
    rintro e w1 ⟨he, hb1⟩
    rw [shpR, if_neg (by simp), zsh, shv_mk] at he
    subst he
    have hbw : Below w.heap.size w w1 := ((Below.refl _ _).alloc (Nat.le_refl _) _).trans (hb1.mono (by simp))
    have k1 : w1.heap[w.heap.size]? = some (.cells #[.int .i64 0, .int .u16 0, .int .u16 0, .int .u16 0, .int .u16 0] 100 (0, 0)) := by rw [hb1.block _ (by simp)]; exact heap_at _ _ _ rfl
    have d0 : w1.cell? ⟨w.heap.size, 0, none⟩ = some (.int .i64 0) := cell_of_row w1 _ 0 _ _ _ k1
    have d1 : w1.cell? ⟨w.heap.size, 1, none⟩ = some (.int .u16 0) := cell_of_row w1 _ 1 _ _ _ k1
    have d2 : w1.cell? ⟨w.heap.size, 2, none⟩ = some (.int .u16 0) := cell_of_row w1 _ 2 _ _ _ k1
    have d3 : w1.cell? ⟨w.heap.size, 3, none⟩ = some (.int .u16 0) := cell_of_row w1 _ 3 _ _ _ k1
    have d4 : w1.cell? ⟨w.heap.size, 4, none⟩ = some (.int .u16 0) := cell_of_row w1 _ 4 _ _ _ k1
    have f0 := frozen_of_row w1 _ 0 _ _ k1
    have f1 := frozen_of_row w1 _ 1 _ _ k1
    have f2 := frozen_of_row w1 _ 2 _ _ k1
    have f3 := frozen_of_row w1 _ 3 _ _ k1
    have f4 := frozen_of_row w1 _ 4 _ _ k1
    have hz : w.heap.size < w1.heap.size := by have := hb1.size; simp at this; omega
    clear hb1 k1
    go_wp2
    refine bodyPost_ret (v := .tuple #[shv zsh, .bool false]) (by simp [results, Tryz.results182, go_sem, shv, zsh, d0, d1, d2, d3, d4, hz]) rfl ⟨by rw [HR.out]; rfl, ?_⟩
    repeat (first | refine Below.setCell ?_ (by first | (simp; done) | (simp; omega)) _ | refine Below.alloc ?_ (by first | (simp; done) | (simp; omega)) _)
    exact hbw
  | true =>
    have HC := Lib.hid (fun va W hW hH => HSH.out (hd0 D) true va W HE0.out.1 HE0.out.2 hok0 hW hH)
    have HOK0 := Lib.hid hok0
    rw [← HX.out] at HC
    obtain ⟨⟨s0, s1, s2, s3, s4⟩, hs⟩ : ∃ s, s = shpR true (κU U) (hd0 D) := ⟨_, rfl⟩
    rw [← hs] at HC
    have HSS : Hid ((s0, s1, s2, s3, s4) = shp (κU U) (hd0 D)) := Lib.hid hs
    obtain ⟨A4, c4, hsl, HT⟩ : ∃ A4 c4, (∀ W, (Instr.sliceAt 95 (.slice (some ⟨g, o, none⟩) n ca) (some (.int .i64 1)) none none).run Tryz.prog W = .ok (.slice A4 (n - 1) c4) W) ∧ Hid (HasD lo w (.slice A4 (n - 1) c4) D.tail) := by
      have hel : Tryz.prog.elem 95 = 191 := by kernel_rfl
      have hsl : Tryz.prog.underlying 95 = some (.slice (Tryz.prog.elem 95)) := by rw [hel]; exact Tryz.underlying95
      obtain ⟨i0, hi, hz0, hz1, hz2⟩ := info_parts sigt.info_decl
      have hcs : Tryz.prog.cellsOf 191 = 2 := by kernel_rfl
      have hrun : ∀ W, (Instr.sliceAt 95 (.slice (some ⟨g, o, none⟩) n ca) (some (.int .i64 1)) none none).run Tryz.prog W = .ok (sliced (some ⟨g, o, none⟩) 1 n ca 2) W := fun W => by
        rw [run_sliceAt_slice W _ _ _ _ _ hsl, run_slice_l W _ _ _ _ hsl .i64 1 (by omega) (by omega), hel, run_sizeOf W hi, hcs]
        rfl
      by_cases h1 : ca = 1
      · have hn1 : n = 1 := by omega
        refine ⟨some ⟨g, o, none⟩, ca - 1, fun W => ?_, Lib.hid ?_⟩
        · rw [hrun W, sliced, if_pos h1]
        · have : D.tail = [] := List.eq_nil_of_length_eq_zero (by rw [List.length_tail]; have := HN.out; omega)
          rw [this, hn1, h1]
          exact HasR.nil _ _ _ (by unfold maxLen; omega) _
      · refine ⟨some ⟨g, o + 2, none⟩, ca - 1, fun W => ?_, Lib.hid (HasR.tail HH.out (by omega : 1 ≤ n))⟩
        rw [hrun W, sliced, if_neg h1]
        simp [Addr.add]
    clear hok0 hs
    go_enter Tryz.func182, Tryz.ntmps182
    go_wp2_with fail
    refine (HC.out _ _ ((Below.refl _ _).alloc (Nat.le_refl _) _) (HD0.out.below (Nat.le_refl _) ((Below.refl _ _).alloc (Nat.le_refl _) _))).mono ?_
    rintro e w1 ⟨he, hb1⟩
    rw [shv_mk] at he
    subst he
    have hbw : Below w.heap.size w w1 := ((Below.refl _ _).alloc (Nat.le_refl _) _).trans (hb1.mono (by simp))
    have k1 : w1.heap[w.heap.size]? = some (.cells #[.int .i64 0, .int .u16 0, .int .u16 0, .int .u16 0, .int .u16 0] 100 (0, 0)) := by rw [hb1.block _ (by simp)]; exact heap_at _ _ _ rfl
    have K1 := Lib.hid k1
    have hz : w.heap.size < w1.heap.size := by have := hb1.size; simp at this; omega
    clear hb1 k1 hc0 hc1
    go_wp2_with fail
    go_loopw [35] (fun i wr => ∃ k : Nat, k ≤ n - 1 ∧ i = .int .i64 k ∧ Hid (∀ j, j < k + 1 → okD U.length (D.getD j default) = true ∧ kD (κU U) (D.getD j default) = kD (κU U) (hd0 D)) ∧
        Hid (wr.heap[w.heap.size]? = some (.cells #[.int .i64 0, .int .u16 0, .int .u16 0, .int .u16 0, .int .u16 0] 100 (0, 0))) ∧
        Hid (wr.heap[w1.heap.size]? = some (.cells #[.int .i64 (s0 : Int), .int .u16 (s1 : Int), .int .u16 (s2 : Int), .int .u16 (s3 : Int), .int .u16 (s4 : Int)] 100 (0, 0))) ∧ w1.heap.size < wr.heap.size ∧ Below w.heap.size w wr) (fun i _ => n - 1 - (intOf i).toNat)
    case atStart =>
      refine ⟨0, Nat.zero_le _, rfl, Lib.hid (fun j hj => ?_), Lib.hid ?_, Lib.hid ?_, by simp, hbw.alloc (by omega) _⟩
      · obtain rfl : j = 0 := by omega
        exact ⟨HOK0.out, rfl⟩
      · rw [Below.heap_alloc _ _ _ (by omega)]; exact K1.out
      · exact heap_at _ _ _ rfl
    case round =>
      obtain ⟨k, hk, rfl, HALL, HZ, HS, hz1, hbel⟩ := hrel
      by_cases hlt : k < n - 1
      · obtain ⟨g', o', A3, c3, rfl, _, hg', hc0, hc1, hh, hi1, hi2⟩ := decl_at HT.out hlt
        have htl : D.tail.getD k default = D.getD (k + 1) default := by cases D <;> simp
        rw [htl] at hc0 hc1 hh hi1 hi2
        rw [← hbel.cell (p := ⟨g', o' + k * 2, none⟩) hg'] at hc0
        rw [← hbel.cell (p := ⟨g', o' + k * 2 + 1, none⟩) hg'] at hc1
        have hhr := hh.has.below (Nat.le_refl _) hbel
        have HB1 : Hid (okD U.length (D.getD (k + 1) default) = false ∨ ¬ kD (κU U) (D.getD (k + 1) default) = kD (κU U) (hd0 D) → r = false) := Lib.hid (fun hb => by rw [← hr]; exact declsOk_bad (by have := HN.out; omega) hb)
        have HB2 : Hid (okD U.length (D.getD (k + 1) default) = true → (shp (κU U) (D.getD (k + 1) default) = shp (κU U) (hd0 D) ↔ kD (κU U) (D.getD (k + 1) default) = kD (κU U) (hd0 D))) := Lib.hid (fun hb => shp_iff hb HOK0.out)
        have HB3 : Hid (okD U.length (D.getD (k + 1) default) = true → kD (κU U) (D.getD (k + 1) default) = kD (κU U) (hd0 D) → ∀ j, j < k + 1 + 1 → okD U.length (D.getD j default) = true ∧ kD (κU U) (D.getD j default) = kD (κU U) (hd0 D)) := Lib.hid (fun h1 h2 j hj => by
          by_cases e : j = k + 1
          · subst e; exact ⟨h1, h2⟩
          · exact HALL.out j (by omega))
        obtain ⟨⟨l, x2⟩, hd⟩ : ∃ d, d = D.getD (k + 1) default := ⟨_, rfl⟩
        rw [← hd] at hc0 hc1 hhr hi1 hi2 HB1 HB2 HB3
        obtain ⟨m2, hm2⟩ : ∃ m2, m2 = l.length := ⟨_, rfl⟩
        rw [← hm2] at hc0 hhr
        have HHR := Lib.hid hhr
        have HI := Lib.hid (And.intro hi1 hi2)
        clear hh hhr hi1 hi2 hd hm2 htl hr
        cases hok : okD U.length (l, x2) with
        | false =>
          have HR := Lib.hid (HB1.out (.inl hok))
          have HC2 := Lib.hid (fun va W hW hH => HSH.out (l, x2) false va W HI.out.1 HI.out.2 hok hW hH)
          clear hok
          go_wp2_with fail
          refine (HC2.out _ _ (hbel.alloc (by omega) _) (HHR.out.below (Nat.le_refl _) ((Below.refl _ _).alloc (Nat.le_refl _) _))).mono ?_
          rintro e w2 ⟨he, hb2⟩
          rw [shpR, if_neg (by simp), zsh, shv_mk] at he
          subst he
          have hbw2 : Below w.heap.size w w2 := (hbel.alloc (by omega) _).trans (hb2.mono (by simp; omega))
          have k2 : w2.heap[w.heap.size]? = some (.cells #[.int .i64 0, .int .u16 0, .int .u16 0, .int .u16 0, .int .u16 0] 100 (0, 0)) := by rw [hb2.block _ (by simp; omega), Below.heap_alloc _ _ _ (by omega)]; exact HZ.out
          have d0 : w2.cell? ⟨w.heap.size, 0, none⟩ = some (.int .i64 0) := cell_of_row w2 _ 0 _ _ _ k2
          have d1 : w2.cell? ⟨w.heap.size, 1, none⟩ = some (.int .u16 0) := cell_of_row w2 _ 1 _ _ _ k2
          have d2 : w2.cell? ⟨w.heap.size, 2, none⟩ = some (.int .u16 0) := cell_of_row w2 _ 2 _ _ _ k2
          have d3 : w2.cell? ⟨w.heap.size, 3, none⟩ = some (.int .u16 0) := cell_of_row w2 _ 3 _ _ _ k2
          have d4 : w2.cell? ⟨w.heap.size, 4, none⟩ = some (.int .u16 0) := cell_of_row w2 _ 4 _ _ _ k2
          have f0 := frozen_of_row w2 _ 0 _ _ k2
          have f1 := frozen_of_row w2 _ 1 _ _ k2
          have f2 := frozen_of_row w2 _ 2 _ _ k2
          have f3 := frozen_of_row w2 _ 3 _ _ k2
          have f4 := frozen_of_row w2 _ 4 _ _ k2
          have hz2 : w.heap.size < w2.heap.size := by have := hb2.size; simp at this; omega
          clear hb2 k2
          go_wp2
          refine bodyPost_ret (v := .tuple #[shv zsh, .bool false]) (by simp [results, Tryz.results182, go_sem, shv, zsh, d0, d1, d2, d3, d4, hz2]) rfl ⟨by rw [HR.out]; rfl, ?_⟩
          repeat (first | refine Below.setCell ?_ (by first | (simp; done) | (simp; omega)) _ | refine Below.alloc ?_ (by first | (simp; done) | (simp; omega)) _)
          exact hbw2
        | true =>
          have HC2 := Lib.hid (fun va W hW hH => HSH.out (l, x2) true va W HI.out.1 HI.out.2 hok hW hH)
          have HOK := Lib.hid hok
          obtain ⟨⟨t0, t1, t2, t3, t4⟩, hs2⟩ : ∃ s, s = shpR true (κU U) (l, x2) := ⟨_, rfl⟩
          rw [← hs2] at HC2
          have hs3 : (t0, t1, t2, t3, t4) = shp (κU U) (l, x2) := hs2
          clear hok hs2
          cases hq : decide (((t0, t1, t2, t3, t4) : Shp) = (s0, s1, s2, s3, s4)) with
          | false =>
            have hcmp : ∀ W, (binOp .neq 100 (.agg #[.int .i64 (t0 : Int), .int .u16 (t1 : Int), .int .u16 (t2 : Int), .int .u16 (t3 : Int), .int .u16 (t4 : Int)]) (.agg #[.int .i64 (s0 : Int), .int .u16 (s1 : Int), .int .u16 (s2 : Int), .int .u16 (s3 : Int), .int .u16 (s4 : Int)])).run Tryz.prog W = .ok (.bool true) W := fun W => neq_shape _ _ _ hq W
            have HR := Lib.hid (HB1.out (.inr (fun e => by
              have h3 := (HB2.out HOK.out).2 e
              rw [← hs3, ← HSS.out] at h3
              simp [h3] at hq)))
            clear hq hs3
            go_wp2_with fail
            refine (HC2.out _ _ (hbel.alloc (by omega) _) (HHR.out.below (Nat.le_refl _) ((Below.refl _ _).alloc (Nat.le_refl _) _))).mono ?_
            rintro e w2 ⟨he, hb2⟩
            rw [shv_mk] at he
            subst he
            have hbw2 : Below w.heap.size w w2 := (hbel.alloc (by omega) _).trans (hb2.mono (by simp; omega))
            have k2 : w2.heap[w.heap.size]? = some (.cells #[.int .i64 0, .int .u16 0, .int .u16 0, .int .u16 0, .int .u16 0] 100 (0, 0)) := by rw [hb2.block _ (by simp; omega), Below.heap_alloc _ _ _ (by omega)]; exact HZ.out
            have k3 : w2.heap[w1.heap.size]? = some (.cells #[.int .i64 (s0 : Int), .int .u16 (s1 : Int), .int .u16 (s2 : Int), .int .u16 (s3 : Int), .int .u16 (s4 : Int)] 100 (0, 0)) := by rw [hb2.block _ (by simp; omega), Below.heap_alloc _ _ _ (by omega)]; exact HS.out
            have d0 : w2.cell? ⟨w.heap.size, 0, none⟩ = some (.int .i64 0) := cell_of_row w2 _ 0 _ _ _ k2
            have d1 : w2.cell? ⟨w.heap.size, 1, none⟩ = some (.int .u16 0) := cell_of_row w2 _ 1 _ _ _ k2
            have d2 : w2.cell? ⟨w.heap.size, 2, none⟩ = some (.int .u16 0) := cell_of_row w2 _ 2 _ _ _ k2
            have d3 : w2.cell? ⟨w.heap.size, 3, none⟩ = some (.int .u16 0) := cell_of_row w2 _ 3 _ _ _ k2
            have d4 : w2.cell? ⟨w.heap.size, 4, none⟩ = some (.int .u16 0) := cell_of_row w2 _ 4 _ _ _ k2
            have f0 := frozen_of_row w2 _ 0 _ _ k2
            have f1 := frozen_of_row w2 _ 1 _ _ k2
            have f2 := frozen_of_row w2 _ 2 _ _ k2
            have f3 := frozen_of_row w2 _ 3 _ _ k2
            have f4 := frozen_of_row w2 _ 4 _ _ k2
            have u0 : w2.cell? ⟨w1.heap.size, 0, none⟩ = some (.int .i64 (s0 : Int)) := cell_of_row w2 _ 0 _ _ _ k3
            have u1 : w2.cell? ⟨w1.heap.size, 1, none⟩ = some (.int .u16 (s1 : Int)) := cell_of_row w2 _ 1 _ _ _ k3
            have u2 : w2.cell? ⟨w1.heap.size, 2, none⟩ = some (.int .u16 (s2 : Int)) := cell_of_row w2 _ 2 _ _ _ k3
            have u3 : w2.cell? ⟨w1.heap.size, 3, none⟩ = some (.int .u16 (s3 : Int)) := cell_of_row w2 _ 3 _ _ _ k3
            have u4 : w2.cell? ⟨w1.heap.size, 4, none⟩ = some (.int .u16 (s4 : Int)) := cell_of_row w2 _ 4 _ _ _ k3
            have hz2 : w.heap.size < w2.heap.size := by have := hb2.size; simp at this; omega
            have hz3 : w1.heap.size < w2.heap.size := by have := hb2.size; simp at this; omega
            clear hb2 k2 k3
            go_wp2
            refine bodyPost_ret (v := .tuple #[shv zsh, .bool false]) (by simp [results, Tryz.results182, go_sem, shv, zsh, d0, d1, d2, d3, d4, hz2]) rfl ⟨by rw [HR.out]; rfl, ?_⟩
            repeat (first | refine Below.setCell ?_ (by first | (simp; done) | (simp; omega)) _ | refine Below.alloc ?_ (by first | (simp; done) | (simp; omega)) _)
            exact hbw2
          | true =>
            have hcmp : ∀ W, (binOp .neq 100 (.agg #[.int .i64 (t0 : Int), .int .u16 (t1 : Int), .int .u16 (t2 : Int), .int .u16 (t3 : Int), .int .u16 (t4 : Int)]) (.agg #[.int .i64 (s0 : Int), .int .u16 (s1 : Int), .int .u16 (s2 : Int), .int .u16 (s3 : Int), .int .u16 (s4 : Int)])).run Tryz.prog W = .ok (.bool false) W := fun W => neq_shape _ _ _ hq W
            have HN2 := Lib.hid (HB3.out HOK.out ((HB2.out HOK.out).1 (by rw [← hs3, ← HSS.out]; exact of_decide_eq_true hq)))
            clear hq hs3
            go_wp2_with fail
            refine (HC2.out _ _ (hbel.alloc (by omega) _) (HHR.out.below (Nat.le_refl _) ((Below.refl _ _).alloc (Nat.le_refl _) _))).mono ?_
            rintro e w2 ⟨he, hb2⟩
            rw [shv_mk] at he
            subst he
            have hbw2 : Below w.heap.size w w2 := (hbel.alloc (by omega) _).trans (hb2.mono (by simp; omega))
            have k2 : w2.heap[w.heap.size]? = some (.cells #[.int .i64 0, .int .u16 0, .int .u16 0, .int .u16 0, .int .u16 0] 100 (0, 0)) := by rw [hb2.block _ (by simp; omega), Below.heap_alloc _ _ _ (by omega)]; exact HZ.out
            have k3 : w2.heap[w1.heap.size]? = some (.cells #[.int .i64 (s0 : Int), .int .u16 (s1 : Int), .int .u16 (s2 : Int), .int .u16 (s3 : Int), .int .u16 (s4 : Int)] 100 (0, 0)) := by rw [hb2.block _ (by simp; omega), Below.heap_alloc _ _ _ (by omega)]; exact HS.out
            have HK2 := Lib.hid k2
            have HK3 := Lib.hid k3
            have u0 : w2.cell? ⟨w1.heap.size, 0, none⟩ = some (.int .i64 (s0 : Int)) := cell_of_row w2 _ 0 _ _ _ k3
            have u1 : w2.cell? ⟨w1.heap.size, 1, none⟩ = some (.int .u16 (s1 : Int)) := cell_of_row w2 _ 1 _ _ _ k3
            have u2 : w2.cell? ⟨w1.heap.size, 2, none⟩ = some (.int .u16 (s2 : Int)) := cell_of_row w2 _ 2 _ _ _ k3
            have u3 : w2.cell? ⟨w1.heap.size, 3, none⟩ = some (.int .u16 (s3 : Int)) := cell_of_row w2 _ 3 _ _ _ k3
            have u4 : w2.cell? ⟨w1.heap.size, 4, none⟩ = some (.int .u16 (s4 : Int)) := cell_of_row w2 _ 4 _ _ _ k3
            have hz3 : w1.heap.size < w2.heap.size := by have := hb2.size; simp at this; omega
            clear hb2 k2 k3
            go_wp2
            go_roundw
            case rel =>
              refine ⟨k + 1, by omega, by go_num, HN2, Lib.hid ?_, Lib.hid ?_, by simp; omega, hbw2.alloc (by omega) _⟩
              · rw [Below.heap_alloc _ _ _ (by omega)]; exact HK2.out
              · rw [Below.heap_alloc _ _ _ (by omega)]; exact HK3.out
            case measure => simp [intOf]; omega
      · obtain rfl : k = n - 1 := by omega
        have HR : Hid (r = true) := Lib.hid (by rw [← hr]; exact declsOk_good (by have := HN.out; omega) (by have := HN.out; omega) (fun j hj => HALL.out j (by have := HN.out; omega)))
        have d0 : wr.cell? ⟨w.heap.size, 0, none⟩ = some (.int .i64 0) := cell_of_row wr _ 0 _ _ _ HZ.out
        have d1 : wr.cell? ⟨w.heap.size, 1, none⟩ = some (.int .u16 0) := cell_of_row wr _ 1 _ _ _ HZ.out
        have d2 : wr.cell? ⟨w.heap.size, 2, none⟩ = some (.int .u16 0) := cell_of_row wr _ 2 _ _ _ HZ.out
        have d3 : wr.cell? ⟨w.heap.size, 3, none⟩ = some (.int .u16 0) := cell_of_row wr _ 3 _ _ _ HZ.out
        have d4 : wr.cell? ⟨w.heap.size, 4, none⟩ = some (.int .u16 0) := cell_of_row wr _ 4 _ _ _ HZ.out
        have f0 := frozen_of_row wr _ 0 _ _ HZ.out
        have f1 := frozen_of_row wr _ 1 _ _ HZ.out
        have f2 := frozen_of_row wr _ 2 _ _ HZ.out
        have f3 := frozen_of_row wr _ 3 _ _ HZ.out
        have f4 := frozen_of_row wr _ 4 _ _ HZ.out
        have u0 : wr.cell? ⟨w1.heap.size, 0, none⟩ = some (.int .i64 (s0 : Int)) := cell_of_row wr _ 0 _ _ _ HS.out
        have u1 : wr.cell? ⟨w1.heap.size, 1, none⟩ = some (.int .u16 (s1 : Int)) := cell_of_row wr _ 1 _ _ _ HS.out
        have u2 : wr.cell? ⟨w1.heap.size, 2, none⟩ = some (.int .u16 (s2 : Int)) := cell_of_row wr _ 2 _ _ _ HS.out
        have u3 : wr.cell? ⟨w1.heap.size, 3, none⟩ = some (.int .u16 (s3 : Int)) := cell_of_row wr _ 3 _ _ _ HS.out
        have u4 : wr.cell? ⟨w1.heap.size, 4, none⟩ = some (.int .u16 (s4 : Int)) := cell_of_row wr _ 4 _ _ _ HS.out
        have hz2 : w.heap.size < wr.heap.size := by omega
        clear hr
        go_wp2
        refine bodyPost_ret (v := .tuple #[shv (s0, s1, s2, s3, s4), .bool true]) (by simp [results, Tryz.results182, go_sem, shv, d0, d1, d2, d3, d4]) rfl ⟨by rw [HR.out, HSS.out]; rfl, ?_⟩
        repeat (first | refine Below.setCell ?_ (by first | (simp; done) | (simp; omega)) _ | refine Below.alloc ?_ (by first | (simp; done) | (simp; omega)) _)
        exact hbel
end Go.Proofs.YtjejdcehlckfhaaGreat.sigj
