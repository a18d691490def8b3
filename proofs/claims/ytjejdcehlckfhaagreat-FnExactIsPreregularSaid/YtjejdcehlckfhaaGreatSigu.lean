/-
  CONTRACTS OF THE LAWS' OWN FUNCTIONS ON OPERATORS AND SIGNATURES: toOpS, toSignature.
-/
import Derived.Test.YtjejdcehlckfhaaGreatSigt
namespace Go.Proofs.YtjejdcehlckfhaaGreat.sigu
open Go.ChangeShapes Go.WideShapes Go.ChangeAt Go.RowKit
open mem split strl join subs setm sortp sorti rowl sigm sigs sigt

theorem setCell_own5 {w : World} {g n cap base : Nat} {e : TypeId} {xs : List Value} (h : w.ownsRow base e 5 (.slice (some ⟨g, 0, none⟩) n cap) n xs) (j : Nat) (u0 u1 u2 u3 u4 : Value) :
    (((((w.setCell ⟨g, j, none⟩ u0).setCell ⟨g, j + 1, none⟩ u1).setCell ⟨g, j + 2, none⟩ u2).setCell ⟨g, j + 3, none⟩ u3).setCell ⟨g, j + 4, none⟩ u4).ownsRow base e 5 (.slice (some ⟨g, 0, none⟩) n cap) n (((((xs.set j u0).set (j + 1) u1).set (j + 2) u2).set (j + 3) u3).set (j + 4) u4) :=
  setCell_own (setCell_own (setCell_own (setCell_own (setCell_own h j u0) (j + 1) u1) (j + 2) u2) (j + 3) u3) (j + 4) u4
theorem info_op : (Tryz.prog.info? 97).map (fun i => (i.zero, i.size, i.bytes)) = some (some (.agg #[.string { data := #[] }, .slice none 0 0, .bool false, .bool false, .int .i64 0]), 5, 56) := by kernel_rfl
set_option maxHeartbeats 1000000 in
/-- laws.toOpS -/
theorem toOpS_any (O : List OpM) (hO : SmO O) (v : Value) (w : World) {lo : Nat} (h : HasO lo w v O) :
    Calls Tryz.prog 38 #[v] w fun e w' => ∃ v', e = .returned v' ∧ HasO w.heap.size w' v' O ∧ Below w.heap.size w w' := by
  obtain ⟨n, hn⟩ : ∃ n, n = O.length := ⟨_, rfl⟩
  obtain ⟨A, c, rfl, h⟩ := HasR.shape h hn.symm
  obtain ⟨i0, hi, hz0, hz1, hz2⟩ := info_parts info_op
  have hn2 : n ≤ 1048576 := by have := hO.1; omega
  have HH := Lib.hid h
  have HN := Lib.hid hn
  have HD := Lib.hid hO.2
  clear h hn hO
  go_enter Tryz.func38, Tryz.ntmps38
  go_wp2_with (at_make; refine wpList_make_full _ rfl _ _ 38 rfl w.heap.size 97 i0 _ 5 Tryz.underlying38 hi hz0 hz1 _ _ _ _ n rfl rfl rfl rfl (by rw [hz2]; omega) (by unfold maxLen; omega) (Nat.le_refl _) ?_)
  intro w1 hown hgrow
  have hsz1 : w.heap.size < w1.heap.size := by
    rcases hown.2 with ⟨hv, _⟩ | ⟨g, cap, cur, hv, hb, hg, _⟩
    · cases hv
    · have := (Array.getElem?_eq_some_iff.1 hg).1; omega
  go_wp2
  go_loopw [4] (fun i wr => ∃ (j : Nat) (ys : List Value), j ≤ n ∧ i = .int .i64 j ∧ wr.ownsRow w.heap.size 97 5 (.slice (some ⟨w.heap.size, 0, none⟩) n n) n ys ∧
      Hid (∀ i, i < j → ∃ cs, (∀ q, q < 5 → ys[i * 5 + q]? = some (cs.getD q undef)) ∧ RO (w.heap.size + 1) wr cs (O.getD i default)) ∧ w.heap.size < wr.heap.size ∧ Below w.heap.size w wr) (fun i _ => n - (intOf i).toNat)
  case atStart => exact ⟨0, _, Nat.zero_le _, rfl, hown, Lib.hid (fun i hi => by omega), hsz1, (Below.refl _ _).grown hgrow (Nat.le_refl _) (by intro k h; cases h)⟩
  case round =>
    obtain ⟨j, ys, hj, rfl, hown, HY, hsz, hbel⟩ := hrel
    by_cases hlt : j < n
    · obtain ⟨g, o, A2, c2, rfl, _, hg, hc0, hc1, hc2, hc3, hc4, hh, hnl, hi2⟩ := op_at HH.out hlt
      have hL := HD.out j (by have := HN.out; omega)
      rw [← hbel.cell (p := ⟨g, o + j * 5, none⟩) hg] at hc0
      rw [← hbel.cell (p := ⟨g, o + j * 5 + 1, none⟩) hg] at hc1
      rw [← hbel.cell (p := ⟨g, o + j * 5 + 2, none⟩) hg] at hc2
      rw [← hbel.cell (p := ⟨g, o + j * 5 + 3, none⟩) hg] at hc3
      rw [← hbel.cell (p := ⟨g, o + j * 5 + 4, none⟩) hg] at hc4
      have hh2 := hh.below RD_steady (Nat.le_refl _) hbel
      obtain ⟨⟨nm, D, a, b, u⟩, hd⟩ : ∃ d, d = O.getD j default := ⟨_, rfl⟩
      rw [← hd] at hc0 hc1 hc2 hc3 hc4 hh2 hL hnl hi2
      have HL := Lib.hid hh2
      have HX := Lib.hid hd
      have HI := Lib.hid (And.intro hnl hi2)
      have HOWN := Lib.hid hown
      have HSM := Lib.hid hL
      clear hh hh2 hd hown hi2 hnl hL
      go_wp2_with fail
      refine (toOp_any nm D HSM.out _ a b u _ HL.out).mono ?_
      rintro e w2 ⟨v2, rfl, hv2, hb2⟩
      obtain ⟨A3, c3, rfl, hv3⟩ := HasR.shape hv2 rfl
      have HO2 := Lib.hid (own_below HOWN.out hb2)
      have HV := Lib.hid hv3
      have HB2 := Lib.hid hb2
      obtain ⟨⟨v0, hw0⟩, hf0⟩ := own_get HO2.out (i := j * 5) (by omega)
      obtain ⟨⟨v1, hw1⟩, hf1⟩ := own_get HO2.out (i := j * 5 + 1) (by omega)
      obtain ⟨⟨v2, hw2⟩, hf2⟩ := own_get HO2.out (i := j * 5 + 2) (by omega)
      obtain ⟨⟨v3, hw3⟩, hf3⟩ := own_get HO2.out (i := j * 5 + 3) (by omega)
      obtain ⟨⟨v4, hw4⟩, hf4⟩ := own_get HO2.out (i := j * 5 + 4) (by omega)
      clear hv2 hv3
      go_wp2
      go_roundw
      case rel =>
        refine ⟨j + 1, _, by omega, by go_num, setCell_own5 HO2.out (j * 5) _ _ _ _ _, Lib.hid ?_, by simp [World.setCell]; have := hb2.size; omega, ?_⟩
        · have hlen : ys.length = n * 5 := by have := HOWN.out.1; omega
          intro i hi
          by_cases hij : i = j
          · subst hij
            refine ⟨[.string (bstr nm), .slice A3 D.length c3, .bool a, .bool b, .int .i64 u], set5_new (by omega), _, by rw [← HX.out], ?_, ?_⟩
            · rw [← HX.out]
              repeat (refine HasR.kept RD_steady ?_ (Kept.set (by simp) _))
              exact HV.out.mono RD_steady (by omega)
            · rw [← HX.out]; exact HI.out
          · obtain ⟨cs, h1, h2⟩ := HY.out i (by omega)
            refine ⟨cs, fun q hq => ?_, ?_⟩
            · rw [set5_old (by omega)]; exact h1 q hq
            · repeat (refine RO_steady.kept ?_ (Kept.set (by simp) _))
              exact RO_steady.kept h2 (Kept.below HB2.out (Nat.le_refl _))
        · repeat (refine Below.setCell ?_ (by simp) _)
          exact hbel.trans (HB2.out.mono hbel.size)
      case measure => simp [intOf]; omega
    · obtain rfl : j = n := by omega
      have HW : Hid (HasO w.heap.size wr (.slice (some ⟨w.heap.size, 0, none⟩) j j) O) := Lib.hid (HasR.of_own hown HN.out.symm (fun i hi => by
        obtain ⟨cs, h1, h2⟩ := HY.out i hi
        exact ⟨cs, h1, RO_steady.mono h2 (by omega)⟩))
      clear hown
      go_wp2
      go_ret
      exact ⟨_, rfl, HW.out, hbel⟩
/-- laws.toSignature -/
theorem toSignature_any (P : List (List UInt8)) (Q : List (Int × Int)) (O : List OpM) (hS : (Small P ∧ Q.length ≤ 1048576) ∧ SmO O) (va vb vc : Value) (w : World) (h : HasG w va vb vc P Q O) :
    Calls Tryz.prog 11 #[.agg #[va, vb, vc]] w fun e w' => ∃ v1 v2 v3, e = .returned (.agg #[v1, v2, v3]) ∧ HasG w' v1 v2 v3 P Q O ∧ Below w.heap.size w w' := by
  obtain ⟨A, ca, B, cb, C, cc, rfl, rfl, rfl, hl1, hl2, hl3, h'⟩ := h.shape
  have HSA := Lib.hid (fun W (hW : Below w.heap.size w W) => toSorts_own P hS.1.1.1 Q hS.1.2 _ _ W (h'.below (Nat.le_refl _) hW).s.a (h'.below (Nat.le_refl _) hW).s.b)
  have HSB := Lib.hid (fun W (hW : Below w.heap.size w W) => toOpS_any O hS.2 _ W (h'.below (Nat.le_refl _) hW).o)
  have HSS := Lib.hid h'.s
  obtain ⟨n, hn⟩ : ∃ n, n = O.length := ⟨_, rfl⟩
  have HN := Lib.hid hn
  rw [← hn] at HSB hl3 ⊢
  clear h h' hn hS
  go_enter Tryz.func11, Tryz.ntmps11
  go_wp2_with fail
  refine (HSA.out _ ?_).mono ?_
  · repeat (first | exact Below.refl _ _ | refine Below.alloc ?_ (by first | (simp; done) | (simp; omega)) _)
  rintro e w1 ⟨v1, v2, rfl, hw1, hw2, hb1⟩
  obtain ⟨A1, c1, rfl, _⟩ := own_slice hw1
  obtain ⟨A2, c2, rfl, _⟩ := own_slice hw2
  have HO1 := Lib.hid (own_down hw1 (base' := w.heap.size + 1 + 1 + 1) (by simp))
  have HO2 := Lib.hid (own_down hw2 (base' := w.heap.size + 1 + 1 + 1) (by simp))
  have hk1 : w1.heap[w.heap.size + 1]? = some (.cells #[.slice none 0 0, .slice none 0 0, .slice none 0 0] 40 (0, 0)) := by rw [hb1.block _ (by simp)]; exact (Below.heap_alloc _ _ _ (by simp)).trans (heap_at _ _ _ (by simp))
  have HK1 := Lib.hid hk1
  have hbw : Below w.heap.size w w1 := ((((Below.refl _ _).alloc (Nat.le_refl _) _).alloc (by simp) _).alloc (by simp; omega) _).trans (hb1.mono (by simp; omega))
  obtain ⟨hc1, hf1⟩ := bcell hb1
  have hz : w.heap.size + 2 < w1.heap.size := by have := hb1.size; simp at this; omega
  clear hw1 hw2 hk1 hb1
  go_wp2_with fail
  refine (HSB.out _ ?_).mono ?_
  · exact (hbw.setCell (by simp; omega) _).setCell (by simp; omega) _
  rintro e w2 ⟨v3, rfl, hw3, hb2⟩
  obtain ⟨A3, c3, rfl, hh3⟩ := HasR.shape hw3 HN.out.symm
  have HV3 := Lib.hid (hh3.mono RO_steady (lo' := w.heap.size + 1 + 1 + 1) (by simp [World.setCell]; omega))
  have hk2 : w2.heap[w.heap.size + 1]? = some (.cells #[.slice none 0 0, .slice none 0 0, .slice none 0 0] 40 (0, 0)) := by
    rw [hb2.block _ (by simp [World.setCell]; omega), Below.heap_setCell _ _ _ _ (by simp), Below.heap_setCell _ _ _ _ (by simp)]; exact HK1.out
  have d0 : w2.cell? ⟨w.heap.size + 1, 0, none⟩ = some (.slice none 0 0) := cell_of_row w2 _ 0 _ _ _ hk2
  have d1 : w2.cell? ⟨w.heap.size + 1, 1, none⟩ = some (.slice none 0 0) := cell_of_row w2 _ 1 _ _ _ hk2
  have d2 : w2.cell? ⟨w.heap.size + 1, 2, none⟩ = some (.slice none 0 0) := cell_of_row w2 _ 2 _ _ _ hk2
  have e0 := frozen_of_row w2 _ 0 _ _ hk2
  have e1 := frozen_of_row w2 _ 1 _ _ hk2
  have e2 := frozen_of_row w2 _ 2 _ _ hk2
  have HO1' := Lib.hid (own_below (own_grown (own_grown HO1.out (grown_set (g := w.heap.size + 1 + 1) (World.grownBy.refl _ _) 0 (.slice A1 P.length c1)) (by simp)) (grown_set (g := w.heap.size + 1 + 1) (World.grownBy.refl _ _) 1 (.slice A2 Q.length c2)) (by simp)) hb2)
  have HO2' := Lib.hid (own_below (own_grown (own_grown HO2.out (grown_set (g := w.heap.size + 1 + 1) (World.grownBy.refl _ _) 0 (.slice A1 P.length c1)) (by simp)) (grown_set (g := w.heap.size + 1 + 1) (World.grownBy.refl _ _) 1 (.slice A2 Q.length c2)) (by simp)) hb2)
  have hbw2 : Below w.heap.size w w2 := by
    refine Below.trans ?_ (hb2.mono ?_)
    · exact (hbw.setCell (by simp; omega) _).setCell (by simp; omega) _
    · simp [World.setCell]; omega
  obtain ⟨hc2, hf2⟩ := bcell hb2
  have hz2 : w.heap.size + 2 < w2.heap.size := by have := hb2.size; simp [World.setCell] at this; omega
  clear hw3 hh3 hk2 hb2
  go_wp2
  refine bodyPost_ret (v := .agg #[.slice A1 P.length c1, .slice A2 Q.length c2, .slice A3 n c3]) (by simp [results, Tryz.results11, go_sem, d0, d1, d2]) rfl ⟨_, _, _, rfl, ⟨⟨?_, ?_, HSS.out.short, HSS.out.in64⟩, ?_⟩, ?_⟩
  · refine Has.of_own (base := w.heap.size + 1 + 1 + 1) (n := P.length) (e := 9) ?_
    repeat (refine own_grown ?_ (grown_set (World.grownBy.refl _ _) _ _) (by simp))
    exact HO1'.out
  · refine HasP.of_own (base := w.heap.size + 1 + 1 + 1) (n := Q.length) (e := 177) ?_
    repeat (refine own_grown ?_ (grown_set (World.grownBy.refl _ _) _ _) (by simp))
    exact HO2'.out
  · refine HasR.mono RO_steady (lo := w.heap.size + 1 + 1 + 1) ?_ (Nat.zero_le _)
    repeat (refine HasR.kept RO_steady ?_ (Kept.set (by simp) _))
    exact HV3.out
  · repeat (refine Below.setCell ?_ (by first | (simp; done) | (simp; omega)) _)
    exact hbw2
end Go.Proofs.YtjejdcehlckfhaaGreat.sigu
