/-
  CONTRACTS OF THE LAWS' OWN FUNCTIONS ON DECLARATIONS, OPERATORS AND SIGNATURES: to.. and eq..
-/
import Derived.Test.YtjejdcehlckfhaaGreatSigs
namespace Go.Proofs.YtjejdcehlckfhaaGreat.sigt
open Go.ChangeShapes Go.WideShapes Go.ChangeAt Go.RowKit
open mem split strl join subs setm sortp sorti rowl sigm sigs

/-- laws.toDecl -/
theorem toDecl_any (L : List Int) (x : Int) (hL : L.length ≤ 1048576) (va : Value) (w : World) (h : Has w va (ivs L)) :
    Calls Tryz.prog 174 #[.agg #[va, .int .i64 x]] w fun e w' => ∃ v, e = .returned (.agg #[v, .int .i64 x]) ∧ HasL w.heap.size w' v (ivs L) ∧ Below w.heap.size w w' := by
  obtain ⟨A, ca, rfl, h'⟩ := h.shape (ivs_len L)
  have HSA := Lib.hid (fun W hW => intl.to_any L hL _ W (h'.below (Nat.le_refl _) hW))
  clear h h'
  go_enter Tryz.func174, Tryz.ntmps174
  go_wp2_with fail
  refine (HSA.out _ ?_).mono ?_
  · repeat (first | exact Below.refl _ _ | refine Below.alloc ?_ (by first | (simp; done) | (simp; omega)) _)
  rintro e w1 ⟨v1, rfl, hown1, hb1⟩
  obtain ⟨A1, c1, rfl, hh1⟩ := HasL.shape (HasL.of_own hown1) (ivs_len L)
  have HO1 := Lib.hid hh1
  have hk1 : w1.heap[w.heap.size + 1]? = some (.cells #[.slice none 0 0, .int .i64 0] 191 (0, 0)) := by rw [hb1.block _ (by simp)]; exact (Below.heap_alloc _ _ _ (by simp)).trans (heap_at _ _ _ (by simp))
  have d0 : w1.cell? ⟨w.heap.size + 1, 0, none⟩ = some (.slice none 0 0) := cell_of_row w1 _ 0 _ _ _ hk1
  have d1 : w1.cell? ⟨w.heap.size + 1, 1, none⟩ = some (.int .i64 0) := cell_of_row w1 _ 1 _ _ _ hk1
  have e0 := frozen_of_row w1 _ 0 _ _ hk1
  have e1 := frozen_of_row w1 _ 1 _ _ hk1
  have hbw : Below w.heap.size w w1 := ((((Below.refl _ _).alloc (Nat.le_refl _) _).alloc (by simp) _).alloc (by simp; omega) _).trans (hb1.mono (by simp; omega))
  obtain ⟨hc1, hf1⟩ := bcell hb1
  have hz : w.heap.size + 2 < w1.heap.size := by have := hb1.size; simp at this; omega
  clear hown1 hh1 hk1 hb1
  go_wp2
  refine bodyPost_ret (v := .agg #[.slice A1 L.length c1, .int .i64 x]) (by simp [results, Tryz.results174, go_sem, d0, d1]) rfl ⟨_, rfl, ?_, ?_⟩
  · refine HasL.mono (lo := w.heap.size + 1 + 1 + 1) ?_ (by omega)
    have h0 := HasL.mono HO1.out (lo' := w.heap.size + 1 + 1 + 1) (by simp)
    repeat (first | exact h0 | refine HasL.kept ?_ (Kept.set (by simp; omega) _) | refine HasL.kept ?_ (Kept.set (by simp) _))
  · repeat (first | exact hbw | refine Below.setCell ?_ (by first | (simp; done) | (simp; omega)) _)
theorem I64_bounds {x : Int} (h : I64 x) : -9223372036854775808 ≤ x ∧ x ≤ 9223372036854775807 := h
theorem info_decl : (Tryz.prog.info? 191).map (fun i => (i.zero, i.size, i.bytes)) = some (some (.agg #[.slice none 0 0, .int .i64 0]), 2, 32) := by kernel_rfl
/-- laws.toDeclS -/
theorem toDeclS_any (D : List (List Int × Int)) (hD : SmD D) (v : Value) (w : World) {lo : Nat} (h : HasD lo w v D) :
    Calls Tryz.prog 133 #[v] w fun e w' => ∃ v', e = .returned v' ∧ HasD w.heap.size w' v' D ∧ Below w.heap.size w w' := by
  obtain ⟨n, hn⟩ : ∃ n, n = D.length := ⟨_, rfl⟩
  obtain ⟨A, c, rfl, h⟩ := HasR.shape h hn.symm
  obtain ⟨i0, hi, hz0, hz1, hz2⟩ := info_parts info_decl
  have hn2 : n ≤ 1048576 := by have := hD.1; omega
  have HH := Lib.hid h
  have HN := Lib.hid hn
  have HD := Lib.hid hD.2
  clear h hn hD
  go_enter Tryz.func133, Tryz.ntmps133
  go_wp2_with (at_make; refine wpList_make_full _ rfl _ _ 95 rfl w.heap.size 191 i0 _ 2 Tryz.underlying95 hi hz0 hz1 _ _ _ _ n rfl rfl rfl rfl (by rw [hz2]; omega) (by unfold maxLen; omega) (Nat.le_refl _) ?_)
  intro w1 hown hgrow
  have hsz1 : w.heap.size < w1.heap.size := by
    rcases hown.2 with ⟨hv, _⟩ | ⟨g, cap, cur, hv, hb, hg, _⟩
    · cases hv
    · have := (Array.getElem?_eq_some_iff.1 hg).1; omega
  go_wp2
  go_loopw [4] (fun i wr => ∃ (j : Nat) (ys : List Value), j ≤ n ∧ i = .int .i64 j ∧ wr.ownsRow w.heap.size 191 2 (.slice (some ⟨w.heap.size, 0, none⟩) n n) n ys ∧
      Hid (∀ i, i < j → ∃ cs, (∀ q, q < 2 → ys[i * 2 + q]? = some (cs.getD q undef)) ∧ RD (w.heap.size + 1) wr cs (D.getD i default)) ∧ w.heap.size < wr.heap.size ∧ Below w.heap.size w wr) (fun i _ => n - (intOf i).toNat)
  case atStart => exact ⟨0, _, Nat.zero_le _, rfl, hown, Lib.hid (fun i hi => by omega), hsz1, (Below.refl _ _).grown hgrow (Nat.le_refl _) (by intro k h; cases h)⟩
  case round =>
    obtain ⟨j, ys, hj, rfl, hown, HY, hsz, hbel⟩ := hrel
    by_cases hlt : j < n
    · obtain ⟨g, o, A2, c2, rfl, _, hg, hc0, hc1, hh, hi1, hi2⟩ := decl_at HH.out hlt
      have hL := HD.out j (by have := HN.out; omega)
      rw [← hbel.cell (p := ⟨g, o + j * 2, none⟩) hg] at hc0
      rw [← hbel.cell (p := ⟨g, o + j * 2 + 1, none⟩) hg] at hc1
      have hh2 := hh.has.below (Nat.le_refl _) hbel
      obtain ⟨⟨l, x⟩, hd⟩ : ∃ d, d = D.getD j default := ⟨_, rfl⟩
      rw [← hd] at hc0 hc1 hh2 hL hi1 hi2
      have HL := Lib.hid hh2
      have HX := Lib.hid hd
      have HI := Lib.hid (And.intro hi1 hi2)
      have HOWN := Lib.hid hown
      clear hh hh2 hd hown hi1 hi2
      go_wp2_with fail
      refine (toDecl_any l x hL _ _ HL.out).mono ?_
      rintro e w2 ⟨v2, rfl, hv2, hb2⟩
      obtain ⟨A3, c3, rfl, hv3⟩ := HasL.shape hv2 (ivs_len l)
      have HO2 := Lib.hid (own_below HOWN.out hb2)
      have HV := Lib.hid hv3
      have HB2 := Lib.hid hb2
      obtain ⟨⟨v0, hw0⟩, hf0⟩ := own_get HO2.out (i := j * 2) (by omega)
      obtain ⟨⟨v1, hw1⟩, hf1⟩ := own_get HO2.out (i := j * 2 + 1) (by omega)
      clear hv2 hv3
      go_wp2
      go_roundw
      case rel =>
        refine ⟨j + 1, _, by omega, by go_num, setCell_own2 HO2.out (j * 2) _ _, Lib.hid ?_, by simp [World.setCell]; have := hb2.size; omega, ((hbel.trans (hb2.mono hbel.size)).setCell (Nat.le_refl _) _).setCell (Nat.le_refl _) _⟩
        have hlen : ys.length = n * 2 := by have := HOWN.out.1; omega
        intro i hi
        by_cases hij : i = j
        · subst hij
          refine ⟨[.slice A3 l.length c3, .int .i64 x], set2_new (by omega), _, by rw [← HX.out], ?_, ?_⟩
          · rw [← HX.out]
            exact ((HV.out.mono (by omega)).kept (Kept.set (by simp) _)).kept (Kept.set (by simp) _)
          · rw [← HX.out]; exact HI.out
        · obtain ⟨cs, h1, h2⟩ := HY.out i (by omega)
          refine ⟨cs, fun q hq => ?_, ?_⟩
          · rw [set2_old (by omega)]; exact h1 q hq
          · exact RD_steady.kept (RD_steady.kept (RD_steady.kept h2 (Kept.below HB2.out (Nat.le_refl _))) (Kept.set (by simp) _)) (Kept.set (by simp) _)
      case measure => simp [intOf]; omega
    · obtain rfl : j = n := by omega
      have HW : Hid (HasD w.heap.size wr (.slice (some ⟨w.heap.size, 0, none⟩) j j) D) := Lib.hid (HasR.of_own hown HN.out.symm (fun i hi => by
        obtain ⟨cs, h1, h2⟩ := HY.out i hi
        exact ⟨cs, h1, RD_steady.mono h2 (by omega)⟩))
      clear hown
      go_wp2
      go_ret
      exact ⟨_, rfl, HW.out, hbel⟩
/-- laws.toOp -/
theorem toOp_any (l : List UInt8) (D : List (List Int × Int)) (hD : SmD D) (va : Value) (a b : Bool) (u : Int) (w : World) {lo : Nat} (h : HasD lo w va D) :
    Calls Tryz.prog 83 #[.agg #[.string (bstr l), va, .bool a, .bool b, .int .i64 u]] w fun e w' => ∃ v, e = .returned (.agg #[.string (bstr l), v, .bool a, .bool b, .int .i64 u]) ∧ HasD w.heap.size w' v D ∧ Below w.heap.size w w' := by
  obtain ⟨A, ca, rfl, h'⟩ := HasR.shape h rfl
  have HSA := Lib.hid (fun W (hW : Below w.heap.size w W) => toDeclS_any D hD _ W (h'.below RD_steady (Nat.le_refl _) hW))
  obtain ⟨n, hn⟩ : ∃ n, n = D.length := ⟨_, rfl⟩
  have HN := Lib.hid hn
  rw [← hn] at HSA ⊢
  clear h h' hn
  go_enter Tryz.func83, Tryz.ntmps83
  go_wp2_with fail
  refine (HSA.out _ ?_).mono ?_
  · repeat (first | exact Below.refl _ _ | refine Below.setCell ?_ (by first | (simp; done) | (simp; omega)) _ | refine Below.alloc ?_ (by first | (simp; done) | (simp; omega)) _)
  rintro e w1 ⟨v1, rfl, hh1, hb1⟩
  obtain ⟨A1, c1, rfl, hh2⟩ := HasR.shape hh1 HN.out.symm
  have HO1 := Lib.hid (hh2.mono RD_steady (lo' := w.heap.size + 1 + 1 + 1) (by simp))
  have hk1 : w1.heap[w.heap.size + 1]? = some (.cells #[.string { data := #[] }, .slice none 0 0, .bool false, .bool false, .int .i64 0] 97 (0, 0)) := by
    rw [hb1.block _ (by simp)]; exact (Below.heap_alloc _ _ _ (by simp)).trans (heap_at _ _ _ (by simp))
  have d0 : w1.cell? ⟨w.heap.size + 1, 0, none⟩ = some (.string { data := #[] }) := cell_of_row w1 _ 0 _ _ _ hk1
  have d1 : w1.cell? ⟨w.heap.size + 1, 1, none⟩ = some (.slice none 0 0) := cell_of_row w1 _ 1 _ _ _ hk1
  have d2 : w1.cell? ⟨w.heap.size + 1, 2, none⟩ = some (.bool false) := cell_of_row w1 _ 2 _ _ _ hk1
  have d3 : w1.cell? ⟨w.heap.size + 1, 3, none⟩ = some (.bool false) := cell_of_row w1 _ 3 _ _ _ hk1
  have d4 : w1.cell? ⟨w.heap.size + 1, 4, none⟩ = some (.int .i64 0) := cell_of_row w1 _ 4 _ _ _ hk1
  have e0 := frozen_of_row w1 _ 0 _ _ hk1
  have e1 := frozen_of_row w1 _ 1 _ _ hk1
  have e2 := frozen_of_row w1 _ 2 _ _ hk1
  have e3 := frozen_of_row w1 _ 3 _ _ hk1
  have e4 := frozen_of_row w1 _ 4 _ _ hk1
  have hbw : Below w.heap.size w w1 := by
    refine Below.trans ?_ (hb1.mono ?_)
    · repeat (first | exact Below.refl _ _ | refine Below.setCell ?_ (by first | (simp; done) | (simp; omega)) _ | refine Below.alloc ?_ (by first | (simp; done) | (simp; omega)) _)
    · simp; omega
  obtain ⟨hc1, hf1⟩ := bcell hb1
  have hz : w.heap.size + 2 < w1.heap.size := by have := hb1.size; simp at this; omega
  clear hh1 hh2 hk1 hb1
  go_wp2
  refine bodyPost_ret (v := .agg #[.string (bstr l), .slice A1 n c1, .bool a, .bool b, .int .i64 u]) (by simp [results, Tryz.results83, go_sem, d0, d1, d2, d3, d4]) rfl ⟨_, rfl, ?_, ?_⟩
  · refine HasR.mono RD_steady (lo := w.heap.size + 1 + 1 + 1) ?_ (by omega)
    repeat (refine HasR.kept RD_steady ?_ (Kept.set (by first | (simp; done) | (simp; omega)) _))
    exact HO1.out
  · repeat (refine Below.setCell ?_ (by first | (simp; done) | (simp; omega)) _)
    exact hbw
end Go.Proofs.YtjejdcehlckfhaaGreat.sigt
