/-
  CONTRACTS OF THE LAWS' OWN FUNCTIONS ON DECLARATIONS, OPERATORS AND SIGNATURES: eq.., at equal values.
-/
import Derived.Test.YtjejdcehlckfhaaGreatSigs
import Derived.Deep.RegionHeld3
namespace Go.Proofs.YtjejdcehlckfhaaGreat.sige
open Go.ChangeShapes Go.WideShapes Go.ChangeAt Go.RowKit
open mem split strl join subs setm sortp sorti rowl sigm sigs

/-- laws.eqDecl, at equal declarations -/
theorem eqDecl_same (L : List Int) (x : Int) (va vb : Value) (w : World) (ha : Has w va (ivs L)) (hb : Has w vb (ivs L)) :
    Calls Tryz.prog 176 #[.agg #[va, .int .i64 x], .agg #[vb, .int .i64 x]] w fun e w' => e = .returned (.bool true) ∧ Below w.heap.size w w' := by
  have HE := Lib.hid (fun W hW => intl.eq_same L va vb W (ha.below (Nat.le_refl _) hW) (hb.below (Nat.le_refl _) hW))
  obtain ⟨A, ca, rfl, _⟩ := ha.shape (ivs_len L)
  obtain ⟨B, cb, rfl, _⟩ := hb.shape (ivs_len L)
  clear ha hb
  go_enter Tryz.func176, Tryz.ntmps176
  go_wp2_with fail
  refine (HE.out _ (((Below.refl _ _).alloc (Nat.le_refl _) _).alloc (by simp) _)).mono ?_
  rintro e w1 ⟨rfl, hb1⟩
  have hbw : Below w.heap.size w w1 := (((Below.refl _ _).alloc (Nat.le_refl _) _).alloc (by simp) _).trans (hb1.mono (by simp; omega))
  have hc1 : w1.cell? ⟨w.heap.size, 1, none⟩ = some (.int .i64 x) := by rw [hb1.cell (p := ⟨w.heap.size, 1, none⟩) (by simp; omega)]; simp
  have hc2 : w1.cell? ⟨w.heap.size + 1, 1, none⟩ = some (.int .i64 x) := by rw [hb1.cell (p := ⟨w.heap.size + 1, 1, none⟩) (by simp)]; simp
  clear hb1
  go_wp2
  go_ret
  exact ⟨rfl, hbw⟩
/-- laws.eqDeclS, at equal declarations -/
theorem eqDeclS_same (D : List (List Int × Int)) (va vb : Value) (w : World) {lo lo' : Nat} (ha : HasD lo w va D) (hb : HasD lo' w vb D) :
    Calls Tryz.prog 139 #[va, vb] w fun e w' => e = .returned (.bool true) ∧ Below w.heap.size w w' := by
  obtain ⟨n, hn⟩ : ∃ n, n = D.length := ⟨_, rfl⟩
  obtain ⟨A, ca, rfl, ha⟩ := HasR.shape ha hn.symm
  obtain ⟨B, cb, rfl, hb⟩ := HasR.shape hb hn.symm
  have hla := ha.len.2.1
  have HA := Lib.hid ha
  have HB := Lib.hid hb
  clear ha hb hn
  go_enter Tryz.func139, Tryz.ntmps139
  go_wp2
  go_loopw [5] (fun i wr => ∃ k : Nat, k ≤ n ∧ i = .int .i64 k ∧ Below w.heap.size w wr) (fun i _ => n - (intOf i).toNat)
  case atStart => exact ⟨0, Nat.zero_le _, rfl, Below.refl _ _⟩
  case round =>
    obtain ⟨k, hk, rfl, hbel⟩ := hrel
    by_cases hlt : k < n
    · obtain ⟨ga, oa, A2, a2, rfl, _, hga, hca, hca2, hha, _, _⟩ := decl_at HA.out hlt
      obtain ⟨gb, ob, B2, b2, rfl, _, hgb, hcb, hcb2, hhb, _, _⟩ := decl_at HB.out hlt
      rw [← hbel.cell (p := ⟨ga, oa + k * 2, none⟩) hga] at hca
      rw [← hbel.cell (p := ⟨ga, oa + k * 2 + 1, none⟩) hga] at hca2
      rw [← hbel.cell (p := ⟨gb, ob + k * 2, none⟩) hgb] at hcb
      rw [← hbel.cell (p := ⟨gb, ob + k * 2 + 1, none⟩) hgb] at hcb2
      have hga2 : ga < wr.heap.size := Nat.lt_of_lt_of_le hga hbel.size
      have hgb2 : gb < wr.heap.size := Nat.lt_of_lt_of_le hgb hbel.size
      have hh1 := hha.has.below (Nat.le_refl _) hbel
      have hh2 := hhb.has.below (Nat.le_refl _) hbel
      obtain ⟨⟨l, x⟩, hd⟩ : ∃ d, d = D.getD k default := ⟨_, rfl⟩
      rw [← hd] at hca hca2 hcb hcb2 hh1 hh2
      obtain ⟨m, hm⟩ : ∃ m, m = l.length := ⟨_, rfl⟩
      rw [← hm] at hca hcb hh1 hh2
      have HE := Lib.hid (fun W hW => eqDecl_same l x _ _ W (hh1.below (Nat.le_refl _) hW) (hh2.below (Nat.le_refl _) hW))
      clear hh1 hh2 hha hhb hd hm
      go_wp2_with fail
      go_region_held3 (fun w' => (w'.cell? ⟨ga, oa + k * 2, none⟩ = some (.slice A2 m a2) ∧ w'.cell? ⟨ga, oa + k * 2 + 1, none⟩ = some (.int .i64 x) ∧ w'.cell? ⟨gb, ob + k * 2, none⟩ = some (.slice B2 m b2) ∧ w'.cell? ⟨gb, ob + k * 2 + 1, none⟩ = some (.int .i64 x)) ∧ Below wr.heap.size wr w')
        (first | (refine ⟨⟨?_, ?_, ?_, ?_⟩, (Below.refl _ _).drew⟩ <;> assumption) | (go_split_ands; exact keep_four (p := ⟨ga, oa + k * 2, none⟩) (q := ⟨ga, oa + k * 2 + 1, none⟩) (r := ⟨gb, ob + k * 2, none⟩) (s := ⟨gb, ob + k * 2 + 1, none⟩) ⟨⟨by assumption, by assumption, by assumption, by assumption⟩, by assumption⟩ ⟨hga2, hga2, hgb2, hgb2⟩ (by assumption)))
        ((go_at_call 176; go_split_ands; refine (HE.out _ (by assumption)).mono ?_; rintro e w1 ⟨rfl, hb1⟩))
      go_wp2
      go_roundw
      case rel =>
        have hh : (w1.cell? ⟨ga, oa + k * 2, none⟩ = some (.slice A2 m a2) ∧ w1.cell? ⟨ga, oa + k * 2 + 1, none⟩ = some (.int .i64 x) ∧ w1.cell? ⟨gb, ob + k * 2, none⟩ = some (.slice B2 m b2) ∧ w1.cell? ⟨gb, ob + k * 2 + 1, none⟩ = some (.int .i64 x)) ∧ Below wr.heap.size wr w1 := by assumption
        exact ⟨k + 1, by omega, by go_num, hbel.trans (hh.2.mono hbel.size)⟩
      case measure => simp [intOf]; omega
    · obtain rfl : k = n := by omega
      go_wp2
      go_ret
      exact ⟨rfl, hbel⟩
/-- laws.eqOp, at equal operators -/
theorem eqOp_same (l : List UInt8) (D : List (List Int × Int)) (a b : Bool) (u : Int) (va vb : Value) (w : World) {lo lo' : Nat} (ha : HasD lo w va D) (hb : HasD lo' w vb D) :
    Calls Tryz.prog 89 #[.agg #[.string (bstr l), va, .bool a, .bool b, .int .i64 u], .agg #[.string (bstr l), vb, .bool a, .bool b, .int .i64 u]] w fun e w' => e = .returned (.bool true) ∧ Below w.heap.size w w' := by
  have HE := Lib.hid (fun W hW => eqDeclS_same D va vb W (ha.below RD_steady (Nat.le_refl _) hW) (hb.below RD_steady (Nat.le_refl _) hW))
  obtain ⟨A, ca, rfl, _⟩ := HasR.shape ha rfl
  obtain ⟨B, cb, rfl, _⟩ := HasR.shape hb rfl
  obtain ⟨n, hn⟩ : ∃ n, n = D.length := ⟨_, rfl⟩
  rw [← hn] at HE ⊢
  clear ha hb hn
  go_enter Tryz.func89, Tryz.ntmps89
  go_wp2_with fail
  refine (HE.out _ (((Below.refl _ _).alloc (Nat.le_refl _) _).alloc (by simp) _)).mono ?_
  rintro e w1 ⟨rfl, hb1⟩
  have hbw : Below w.heap.size w w1 := (((Below.refl _ _).alloc (Nat.le_refl _) _).alloc (by simp) _).trans (hb1.mono (by simp; omega))
  have a2 : w1.cell? ⟨w.heap.size, 2, none⟩ = some (.bool a) := by rw [hb1.cell (p := ⟨w.heap.size, 2, none⟩) (by simp; omega)]; simp
  have b2 : w1.cell? ⟨w.heap.size + 1, 2, none⟩ = some (.bool a) := by rw [hb1.cell (p := ⟨w.heap.size + 1, 2, none⟩) (by simp)]; simp
  have a3 : w1.cell? ⟨w.heap.size, 3, none⟩ = some (.bool b) := by rw [hb1.cell (p := ⟨w.heap.size, 3, none⟩) (by simp; omega)]; simp
  have b3 : w1.cell? ⟨w.heap.size + 1, 3, none⟩ = some (.bool b) := by rw [hb1.cell (p := ⟨w.heap.size + 1, 3, none⟩) (by simp)]; simp
  have a4 : w1.cell? ⟨w.heap.size, 4, none⟩ = some (.int .i64 u) := by rw [hb1.cell (p := ⟨w.heap.size, 4, none⟩) (by simp; omega)]; simp
  have b4 : w1.cell? ⟨w.heap.size + 1, 4, none⟩ = some (.int .i64 u) := by rw [hb1.cell (p := ⟨w.heap.size + 1, 4, none⟩) (by simp)]; simp
  clear hb1
  go_wp2
  go_ret
  exact ⟨rfl, hbw⟩
/-- ten cells stay, whatever a call adds -/
theorem keep_ten {wr w0 w1 : World} {g g' o o' : Nat} {a0 a1 a2 a3 a4 b0 b1 b2 b3 b4 : Value}
    (h : (w0.cell? ⟨g, o, none⟩ = some a0 ∧ w0.cell? ⟨g, o + 1, none⟩ = some a1 ∧ w0.cell? ⟨g, o + 2, none⟩ = some a2 ∧ w0.cell? ⟨g, o + 3, none⟩ = some a3 ∧ w0.cell? ⟨g, o + 4, none⟩ = some a4 ∧
      w0.cell? ⟨g', o', none⟩ = some b0 ∧ w0.cell? ⟨g', o' + 1, none⟩ = some b1 ∧ w0.cell? ⟨g', o' + 2, none⟩ = some b2 ∧ w0.cell? ⟨g', o' + 3, none⟩ = some b3 ∧ w0.cell? ⟨g', o' + 4, none⟩ = some b4) ∧ Below wr.heap.size wr w0)
    (hp : g < wr.heap.size ∧ g' < wr.heap.size) (hb : Below w0.heap.size w0 w1) :
    (w1.cell? ⟨g, o, none⟩ = some a0 ∧ w1.cell? ⟨g, o + 1, none⟩ = some a1 ∧ w1.cell? ⟨g, o + 2, none⟩ = some a2 ∧ w1.cell? ⟨g, o + 3, none⟩ = some a3 ∧ w1.cell? ⟨g, o + 4, none⟩ = some a4 ∧
      w1.cell? ⟨g', o', none⟩ = some b0 ∧ w1.cell? ⟨g', o' + 1, none⟩ = some b1 ∧ w1.cell? ⟨g', o' + 2, none⟩ = some b2 ∧ w1.cell? ⟨g', o' + 3, none⟩ = some b3 ∧ w1.cell? ⟨g', o' + 4, none⟩ = some b4) ∧ Below wr.heap.size wr w1 := by
  have hs := h.2.size
  have k : ∀ x, w1.cell? ⟨g, x, none⟩ = w0.cell? ⟨g, x, none⟩ := fun x => hb.cell (p := ⟨g, x, none⟩) (by show g < _; omega)
  have k' : ∀ x, w1.cell? ⟨g', x, none⟩ = w0.cell? ⟨g', x, none⟩ := fun x => hb.cell (p := ⟨g', x, none⟩) (by show g' < _; omega)
  rw [k, k, k, k, k, k', k', k', k', k']
  exact ⟨h.1, h.2.trans (hb.mono hs)⟩
/-- laws.eqOpS, at equal operators -/
theorem eqOpS_same (O : List OpM) (va vb : Value) (w : World) {lo lo' : Nat} (ha : HasO lo w va O) (hb : HasO lo' w vb O) :
    Calls Tryz.prog 43 #[va, vb] w fun e w' => e = .returned (.bool true) ∧ Below w.heap.size w w' := by
  obtain ⟨n, hn⟩ : ∃ n, n = O.length := ⟨_, rfl⟩
  obtain ⟨A, ca, rfl, ha⟩ := HasR.shape ha hn.symm
  obtain ⟨B, cb, rfl, hb⟩ := HasR.shape hb hn.symm
  have hla := ha.len.2.1
  have HA := Lib.hid ha
  have HB := Lib.hid hb
  clear ha hb hn
  go_enter Tryz.func43, Tryz.ntmps43
  go_wp2
  go_loopw [5] (fun i wr => ∃ k : Nat, k ≤ n ∧ i = .int .i64 k ∧ Below w.heap.size w wr) (fun i _ => n - (intOf i).toNat)
  case atStart => exact ⟨0, Nat.zero_le _, rfl, Below.refl _ _⟩
  case round =>
    obtain ⟨k, hk, rfl, hbel⟩ := hrel
    by_cases hlt : k < n
    · obtain ⟨ga, oa, A2, a2, rfl, _, hga, ha0, ha1, ha2, ha3, ha4, hha, _, _⟩ := op_at HA.out hlt
      obtain ⟨gb, ob, B2, b2, rfl, _, hgb, hb0, hb1, hb2, hb3, hb4, hhb, _, _⟩ := op_at HB.out hlt
      have ka : ∀ x, w.cell? ⟨ga, x, none⟩ = wr.cell? ⟨ga, x, none⟩ := fun x => (hbel.cell (p := ⟨ga, x, none⟩) hga).symm
      have kb : ∀ x, w.cell? ⟨gb, x, none⟩ = wr.cell? ⟨gb, x, none⟩ := fun x => (hbel.cell (p := ⟨gb, x, none⟩) hgb).symm
      rw [ka] at ha0 ha1 ha2 ha3 ha4
      rw [kb] at hb0 hb1 hb2 hb3 hb4
      have hga2 : ga < wr.heap.size := Nat.lt_of_lt_of_le hga hbel.size
      have hgb2 : gb < wr.heap.size := Nat.lt_of_lt_of_le hgb hbel.size
      have hh1 := hha.below RD_steady (Nat.le_refl _) hbel
      have hh2 := hhb.below RD_steady (Nat.le_refl _) hbel
      obtain ⟨⟨nm, D, p, q, u⟩, hd⟩ : ∃ d, d = O.getD k default := ⟨_, rfl⟩
      rw [← hd] at ha0 ha1 ha2 ha3 ha4 hb0 hb1 hb2 hb3 hb4 hh1 hh2
      obtain ⟨m, hm⟩ : ∃ m, m = D.length := ⟨_, rfl⟩
      simp only [← hm] at ha0 ha1 ha2 ha3 ha4 hb0 hb1 hb2 hb3 hb4 hh1 hh2
      have HE := Lib.hid (fun W hW => eqOp_same nm D p q u _ _ W (hh1.below RD_steady (Nat.le_refl _) hW) (hh2.below RD_steady (Nat.le_refl _) hW))
      clear hh1 hh2 hha hhb hd hm ka kb
      go_wp2_with fail
      go_region_held3 (fun w' => (w'.cell? ⟨ga, oa + k * 5, none⟩ = some (.string (bstr nm)) ∧ w'.cell? ⟨ga, oa + k * 5 + 1, none⟩ = some (.slice A2 m a2) ∧ w'.cell? ⟨ga, oa + k * 5 + 2, none⟩ = some (.bool p) ∧ w'.cell? ⟨ga, oa + k * 5 + 3, none⟩ = some (.bool q) ∧ w'.cell? ⟨ga, oa + k * 5 + 4, none⟩ = some (.int .i64 u) ∧
          w'.cell? ⟨gb, ob + k * 5, none⟩ = some (.string (bstr nm)) ∧ w'.cell? ⟨gb, ob + k * 5 + 1, none⟩ = some (.slice B2 m b2) ∧ w'.cell? ⟨gb, ob + k * 5 + 2, none⟩ = some (.bool p) ∧ w'.cell? ⟨gb, ob + k * 5 + 3, none⟩ = some (.bool q) ∧ w'.cell? ⟨gb, ob + k * 5 + 4, none⟩ = some (.int .i64 u)) ∧ Below wr.heap.size wr w')
        (first | (refine ⟨⟨?_, ?_, ?_, ?_, ?_, ?_, ?_, ?_, ?_, ?_⟩, (Below.refl _ _).drew⟩ <;> assumption) | (go_split_ands; exact keep_ten (g := ga) (g' := gb) ⟨⟨by assumption, by assumption, by assumption, by assumption, by assumption, by assumption, by assumption, by assumption, by assumption, by assumption⟩, by assumption⟩ ⟨hga2, hgb2⟩ (by assumption)))
        ((go_at_call 89; go_split_ands; refine (HE.out _ (by assumption)).mono ?_; rintro e w1 ⟨rfl, hb1⟩))
      go_wp2
      go_roundw
      case rel =>
        have hh : Below wr.heap.size wr w1 := by go_split_ands; assumption
        exact ⟨k + 1, by omega, by go_num, hbel.trans (hh.mono hbel.size)⟩
      case measure => simp [intOf]; omega
    · obtain rfl : k = n := by omega
      go_wp2
      go_ret
      exact ⟨rfl, hbel⟩
/-- laws.eqSignature, at equal signatures -/
theorem eqSignature_same (P : List (List UInt8)) (Q : List (Int × Int)) (O : List OpM) (va vb vc va' vb' vc' : Value) (w : World) (h : HasG w va vb vc P Q O) (h' : HasG w va' vb' vc' P Q O) :
    Calls Tryz.prog 14 #[.agg #[va, vb, vc], .agg #[va', vb', vc']] w fun e w' => e = .returned (.bool true) ∧ Below w.heap.size w w' := by
  have HES := Lib.hid (fun W hW => eqSorts_same P Q va vb va' vb' W (h.below (Nat.le_refl _) hW).s.a (h.below (Nat.le_refl _) hW).s.b (h'.below (Nat.le_refl _) hW).s.a (h'.below (Nat.le_refl _) hW).s.b)
  have HEO := Lib.hid (fun W hW => eqOpS_same O vc vc' W (h.below (Nat.le_refl _) hW).o (h'.below (Nat.le_refl _) hW).o)
  obtain ⟨A, ca, B, cb, C, cc, rfl, rfl, rfl, _, _, _, _⟩ := h.shape
  obtain ⟨A', ca', B', cb', C', cc', rfl, rfl, rfl, _, _, _, _⟩ := h'.shape
  obtain ⟨n, hn⟩ : ∃ n, n = O.length := ⟨_, rfl⟩
  rw [← hn] at HEO ⊢
  clear h h' hn
  go_enter Tryz.func14, Tryz.ntmps14
  go_wp2_with fail
  refine (HES.out _ (((Below.refl _ _).alloc (Nat.le_refl _) _).alloc (by simp) _)).mono ?_
  rintro e w1 ⟨rfl, hb1⟩
  have hbw : Below w.heap.size w w1 := (((Below.refl _ _).alloc (Nat.le_refl _) _).alloc (by simp) _).trans (hb1.mono (by simp; omega))
  have hc1 : w1.cell? ⟨w.heap.size, 2, none⟩ = some (.slice C n cc) := by rw [hb1.cell (p := ⟨w.heap.size, 2, none⟩) (by simp; omega)]; simp
  have hc2 : w1.cell? ⟨w.heap.size + 1, 2, none⟩ = some (.slice C' n cc') := by rw [hb1.cell (p := ⟨w.heap.size + 1, 2, none⟩) (by simp)]; simp
  clear hb1
  go_wp2_with fail
  refine (HEO.out _ hbw).mono ?_
  rintro e w2 ⟨rfl, hb2⟩
  have hbw2 := hbw.trans (hb2.mono hbw.size)
  clear hb2
  go_wp2
  go_ret
  exact ⟨rfl, hbw2⟩
end Go.Proofs.YtjejdcehlckfhaaGreat.sige
