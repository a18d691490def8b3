/-
  CONTRACTS OF THE LAWS' OWN FUNCTIONS ON TERMS: eqTerm (at equal terms), markTerm and heldTermS, and those of their rows.
-/
import Derived.Test.YtejkkdnjdfehjaaTermt
namespace Go.Proofs.Ytejkkdnjdfehjaa.termu
open Go.ChangeShapes Go.WideShapes Go.ChangeAt Go.RowKit
open mem dec rowl trm trmv terml termt

theorem op_mk (o : Int) (n : List UInt8) (s : Int) (l : List TermM) : (TermM.mk o n s l).op = o := rfl
theorem name_mk (o : Int) (n : List UInt8) (s : Int) (l : List TermM) : (TermM.mk o n s l).name = n := rfl
theorem sort_mk (o : Int) (n : List UInt8) (s : Int) (l : List TermM) : (TermM.mk o n s l).sort = s := rfl
theorem args_mk (o : Int) (n : List UInt8) (s : Int) (l : List TermM) : (TermM.mk o n s l).args = l := rfl
/-- laws.eqTermS, at equal terms of at most this depth -/
def EqS (n : Nat) : Prop := ∀ (L : List TermM) (va vb : Value) (w : World) (lo lo' : Nat), HasTs n lo w va L → HasTs n lo' w vb L →
  Calls Try.prog 40 #[va, vb] w fun e w' => e = .returned (.bool true) ∧ Below w.heap.size w w'
/-- laws.eqTerm -/
theorem eqTerm_of {n : Nat} (hS : EqS n) (op : Int) (l : List UInt8) (s : Int) (L : List TermM) (va vb : Value) (w : World) {lo lo' : Nat} (ha : HasTs n lo w va L) (hb : HasTs n lo' w vb L) :
    Calls Try.prog 20 #[.agg #[.int .i64 op, .string (bstr l), .int .i64 s, va], .agg #[.int .i64 op, .string (bstr l), .int .i64 s, vb]] w fun e w' => e = .returned (.bool true) ∧ Below w.heap.size w w' := by
  have HE := Lib.hid (fun W (hW : Below w.heap.size w W) => hS L va vb W lo lo' (ha.below (Nat.le_refl _) hW) (hb.below (Nat.le_refl _) hW))
  obtain ⟨A, ca, rfl, _⟩ := HasR.shape ha rfl
  obtain ⟨B, cb, rfl, _⟩ := HasR.shape hb rfl
  obtain ⟨k, hk⟩ : ∃ k, k = L.length := ⟨_, rfl⟩
  rw [← hk] at HE ⊢
  clear ha hb hk
  go_enter Try.func20, Try.ntmps20
  go_wp2_with fail
  refine (HE.out _ (((Below.refl _ _).alloc (Nat.le_refl _) _).alloc (by simp) _)).mono ?_
  rintro e w1 ⟨rfl, hb1⟩
  have hbw : Below w.heap.size w w1 := (((Below.refl _ _).alloc (Nat.le_refl _) _).alloc (by simp) _).trans (hb1.mono (by simp; omega))
  clear hb1
  go_wp2
  go_ret
  exact ⟨rfl, hbw⟩
/-- eight cells stay, whatever a call adds -/
theorem keep_eight {wr w0 w1 : World} {g g' o o' : Nat} {a0 a1 a2 a3 b0 b1 b2 b3 : Value}
    (h : (w0.cell? ⟨g, o, none⟩ = some a0 ∧ w0.cell? ⟨g, o + 1, none⟩ = some a1 ∧ w0.cell? ⟨g, o + 2, none⟩ = some a2 ∧ w0.cell? ⟨g, o + 3, none⟩ = some a3 ∧
      w0.cell? ⟨g', o', none⟩ = some b0 ∧ w0.cell? ⟨g', o' + 1, none⟩ = some b1 ∧ w0.cell? ⟨g', o' + 2, none⟩ = some b2 ∧ w0.cell? ⟨g', o' + 3, none⟩ = some b3) ∧ Below wr.heap.size wr w0)
    (hp : g < wr.heap.size ∧ g' < wr.heap.size) (hb : Below w0.heap.size w0 w1) :
    (w1.cell? ⟨g, o, none⟩ = some a0 ∧ w1.cell? ⟨g, o + 1, none⟩ = some a1 ∧ w1.cell? ⟨g, o + 2, none⟩ = some a2 ∧ w1.cell? ⟨g, o + 3, none⟩ = some a3 ∧
      w1.cell? ⟨g', o', none⟩ = some b0 ∧ w1.cell? ⟨g', o' + 1, none⟩ = some b1 ∧ w1.cell? ⟨g', o' + 2, none⟩ = some b2 ∧ w1.cell? ⟨g', o' + 3, none⟩ = some b3) ∧ Below wr.heap.size wr w1 := by
  have hs := h.2.size
  have k : ∀ x, w1.cell? ⟨g, x, none⟩ = w0.cell? ⟨g, x, none⟩ := fun x => hb.cell (p := ⟨g, x, none⟩) (by show g < _; omega)
  have k' : ∀ x, w1.cell? ⟨g', x, none⟩ = w0.cell? ⟨g', x, none⟩ := fun x => hb.cell (p := ⟨g', x, none⟩) (by show g' < _; omega)
  rw [k, k, k, k, k', k', k', k']
  exact ⟨h.1, h.2.trans (hb.mono hs)⟩
/-- three cells stay, whatever a call adds -/
theorem keep_three3 {wr w0 w1 : World} {g o1 o2 o3 : Nat} {a1 a2 a3 : Value} (h : (w0.cell? ⟨g, o1, none⟩ = some a1 ∧ w0.cell? ⟨g, o2, none⟩ = some a2 ∧ w0.cell? ⟨g, o3, none⟩ = some a3) ∧ Below wr.heap.size wr w0)
    (hp : g < wr.heap.size) (hb : Below w0.heap.size w0 w1) : (w1.cell? ⟨g, o1, none⟩ = some a1 ∧ w1.cell? ⟨g, o2, none⟩ = some a2 ∧ w1.cell? ⟨g, o3, none⟩ = some a3) ∧ Below wr.heap.size wr w1 := by
  have hs := h.2.size
  have k : ∀ x, w1.cell? ⟨g, x, none⟩ = w0.cell? ⟨g, x, none⟩ := fun x => hb.cell (p := ⟨g, x, none⟩) (by show g < _; omega)
  rw [k, k, k]
  exact ⟨h.1, h.2.trans (hb.mono hs)⟩
theorem eqS_step {n : Nat} (hS : ∀ k, n = k + 1 → EqS k) : EqS n := by
  intro L va vb w lo lo' ha hb
  obtain ⟨N, hN⟩ : ∃ N, N = L.length := ⟨_, rfl⟩
  obtain ⟨A, ca, rfl, ha⟩ := HasR.shape ha hN.symm
  obtain ⟨B, cb, rfl, hb⟩ := HasR.shape hb hN.symm
  have hla := ha.len.2.1
  have HA := Lib.hid ha
  have HB := Lib.hid hb
  have HS := Lib.hid hS
  clear ha hb hN hS
  go_enter Try.func40, Try.ntmps40
  go_wp2
  go_loopw [5] (fun i wr => ∃ k : Nat, k ≤ N ∧ i = .int .i64 k ∧ Below w.heap.size w wr) (fun i _ => N - (intOf i).toNat)
  case atStart => exact ⟨0, Nat.zero_le _, rfl, Below.refl _ _⟩
  case round =>
    obtain ⟨k, hk, rfl, hbel⟩ := hrel
    by_cases hlt : k < N
    · obtain ⟨ka, ga, oa, A2, a2, hna, rfl, _, hga, ha0, ha1, ha2, ha3, hha, _⟩ := term_at HA.out hlt
      obtain ⟨kb, gb, ob, B2, b2, hnb, rfl, _, hgb, hb0, hb1, hb2, hb3, hhb, _⟩ := term_at HB.out hlt
      obtain rfl : ka = kb := by omega
      have qa : ∀ x, w.cell? ⟨ga, x, none⟩ = wr.cell? ⟨ga, x, none⟩ := fun x => (hbel.cell (p := ⟨ga, x, none⟩) hga).symm
      have qb : ∀ x, w.cell? ⟨gb, x, none⟩ = wr.cell? ⟨gb, x, none⟩ := fun x => (hbel.cell (p := ⟨gb, x, none⟩) hgb).symm
      rw [qa] at ha0 ha1 ha2 ha3
      rw [qb] at hb0 hb1 hb2 hb3
      have hga2 : ga < wr.heap.size := Nat.lt_of_lt_of_le hga hbel.size
      have hgb2 : gb < wr.heap.size := Nat.lt_of_lt_of_le hgb hbel.size
      have hh1 := hha.below (Nat.le_refl _) hbel
      have hh2 := hhb.below (Nat.le_refl _) hbel
      obtain ⟨⟨op, nm, so, D⟩, hd⟩ : ∃ d, d = L.getD k default := ⟨_, rfl⟩
      rw [← hd] at ha0 ha1 ha2 ha3 hb0 hb1 hb2 hb3 hh1 hh2
      obtain ⟨m, hm⟩ : ∃ m, m = D.length := ⟨_, rfl⟩
      simp only [TermM.op, TermM.name, TermM.sort, TermM.args, ← hm] at ha0 ha1 ha2 ha3 hb0 hb1 hb2 hb3 hh1 hh2
      have HE := Lib.hid (fun W (hW : Below wr.heap.size wr W) => eqTerm_of (HS.out ka hna) op nm so D _ _ W (hh1.below (Nat.le_refl _) hW) (hh2.below (Nat.le_refl _) hW))
      clear hh1 hh2 hha hhb hd hm qa qb hna hnb
      go_wp2_with fail
      go_region_held3 (fun w' => (w'.cell? ⟨ga, oa + k * 4, none⟩ = some (.int .i64 op) ∧ w'.cell? ⟨ga, oa + k * 4 + 1, none⟩ = some (.string (bstr nm)) ∧ w'.cell? ⟨ga, oa + k * 4 + 2, none⟩ = some (.int .i64 so) ∧ w'.cell? ⟨ga, oa + k * 4 + 3, none⟩ = some (.slice A2 m a2) ∧
          w'.cell? ⟨gb, ob + k * 4, none⟩ = some (.int .i64 op) ∧ w'.cell? ⟨gb, ob + k * 4 + 1, none⟩ = some (.string (bstr nm)) ∧ w'.cell? ⟨gb, ob + k * 4 + 2, none⟩ = some (.int .i64 so) ∧ w'.cell? ⟨gb, ob + k * 4 + 3, none⟩ = some (.slice B2 m b2)) ∧ Below wr.heap.size wr w')
        (first | (refine ⟨⟨?_, ?_, ?_, ?_, ?_, ?_, ?_, ?_⟩, (Below.refl _ _).drew⟩ <;> assumption) | (go_split_ands; exact keep_eight (g := ga) (g' := gb) ⟨⟨by assumption, by assumption, by assumption, by assumption, by assumption, by assumption, by assumption, by assumption⟩, by assumption⟩ ⟨hga2, hgb2⟩ (by assumption)))
        ((go_at_call 20; go_split_ands; refine (HE.out _ (by assumption)).mono ?_; rintro e w1 ⟨rfl, hb1⟩))
      go_wp2
      go_roundw
      case rel =>
        have hh : Below wr.heap.size wr w1 := by go_split_ands; assumption
        exact ⟨k + 1, by omega, by go_num, hbel.trans (hh.mono hbel.size)⟩
      case measure => simp [intOf]; omega
    · obtain rfl : k = N := by omega
      go_wp2
      go_ret
      exact ⟨rfl, hbel⟩
theorem eqTermS_same : ∀ n, EqS n
  | 0 => eqS_step (fun k h => by omega)
  | n + 1 => eqS_step (fun k h => Nat.succ.inj h ▸ eqTermS_same n)
theorem eqS_any {n m : Nat} (L : List TermM) (va vb : Value) (w : World) {lo lo' : Nat} (ha : HasTs n lo w va L) (hb : HasTs m lo' w vb L) :
    Calls Try.prog 40 #[va, vb] w fun e w' => e = .returned (.bool true) ∧ Below w.heap.size w w' :=
  eqTermS_same (max n m) L va vb w lo lo' (ha.up (Nat.le_max_left _ _)) (hb.up (Nat.le_max_right _ _))
theorem eqTerm_any {n m : Nat} (op : Int) (l : List UInt8) (s : Int) (L : List TermM) (va vb : Value) (w : World) {lo lo' : Nat} (ha : HasTs n lo w va L) (hb : HasTs m lo' w vb L) :
    Calls Try.prog 20 #[.agg #[.int .i64 op, .string (bstr l), .int .i64 s, va], .agg #[.int .i64 op, .string (bstr l), .int .i64 s, vb]] w fun e w' => e = .returned (.bool true) ∧ Below w.heap.size w w' :=
  eqTerm_of (eqTermS_same (max n m)) op l s L va vb w (ha.up (Nat.le_max_left _ _)) (hb.up (Nat.le_max_right _ _))
theorem far_cell {w : World} {g i j : Nat} {v : Value} (h : i ≠ j) : (w.setCell ⟨g, i, none⟩ v).cell? ⟨g, j, none⟩ = w.cell? ⟨g, j, none⟩ :=
  World.cell?_setCell_other w ⟨g, i, none⟩ ⟨g, j, none⟩ v (fun e => h (congrArg Addr.off e))
/-- the text of a mark -/
def tx (k : Nat) : List UInt8 := 109 :: dig k
/-- the first j terms marked -/
noncomputable def mixT (L : List TermM) (k j : Nat) : List TermM := (mkL tx L k).take j ++ L.drop j
theorem mixT_len (L : List TermM) (k j : Nat) (hj : j ≤ L.length) : (mixT L k j).length = L.length := by
  simp [mixT, mkL_len]; omega
theorem mixT_at (L : List TermM) (k j : Nat) (hj : j < L.length) : (mixT L k j).getD j default = L.getD j default := by
  simp [mixT, List.getD, mkL_len, List.getElem?_append, Nat.min_eq_left (Nat.le_of_lt hj)]
theorem mixT_step (L : List TermM) (k j : Nat) (hj : j < L.length) : mixT L k (j + 1) = (mixT L k j).set j (mkT tx (L.getD j default) (offs L k j)) := by
  have h1 : j < (mkL tx L k).length := by rw [mkL_len]; exact hj
  have h2 := mkL_get tx L k j hj
  rw [getD_at h1] at h2
  have h3 : ((mkL tx L k).take j).length = j := by rw [List.length_take]; omega
  rw [mixT, List.take_succ_eq_append_getElem h1, h2, mixT, List.set_append_right _ _ (by omega), h3, Nat.sub_self]
  conv => rhs; rw [List.drop_eq_getElem_cons hj]
  rw [List.set_cons_zero, List.append_assoc]
  rfl
theorem mixT_zero (L : List TermM) (k : Nat) : mixT L k 0 = L := by simp [mixT]
theorem mixT_all (L : List TermM) (k : Nat) : mixT L k L.length = mkL tx L k := by simp [mixT, ← mkL_len tx L k]
/-- one element written, its row too -/
theorem ot_set {T : TypeId} {n lo : Nat} {w w' : World} {v : Value} {M : List TermM} {S : List Nat} {xs xs' : List Value} {vs : Nat → Value} {Ss : Nat → List Nat} (hS : S = v.ownBlock.toList ++ (List.range M.length).flatMap Ss) (hnd : S.Nodup)
    (hj : ∀ j, j < M.length → Cells4 xs j (M.getD j default) (vs j) ∧ Bnd (M.getD j default) ∧ OT T n lo w (vs j) (M.getD j default).args (Ss j))
    {j : Nat} {t : TermM} (hlt : j < M.length) (ho : w'.ownsRow lo T 4 v M.length xs') (hold : ∀ i, i < j * 4 ∨ j * 4 + 4 ≤ i → xs'[i]? = xs[i]?) (hnew : Cells4 xs' j t (vs j)) (hb : Bnd t)
    (hc : Chg (v.ownBlock.toList ++ Ss j) w w') (hot : OT T n lo w' (vs j) t.args (Ss j)) : OT T (n + 1) lo w' v (M.set j t) S := by
  refine ⟨xs', vs, Ss, by rw [List.length_set]; exact ho, by rw [List.length_set]; exact hS, hnd, fun i hi => ?_⟩
  rw [List.length_set] at hi
  by_cases e : i = j
  · subst e
    have : (M.set i t).getD i default = t := by simp [List.getD, hi]
    rw [this]
    exact ⟨hnew, hb, hot⟩
  · have : (M.set j t).getD i default = M.getD i default := by simp [List.getD, List.getElem?_set_ne (Ne.symm e)]
    rw [this]
    obtain ⟨⟨a, b, c, d⟩, h2, h3⟩ := hj i hi
    refine ⟨⟨?_, ?_, ?_, ?_⟩, h2, h3.chg hc (fun q hq hm => ?_)⟩
    · rw [hold _ (by omega)]; exact a
    · rw [hold _ (by omega)]; exact b
    · rw [hold _ (by omega)]; exact c
    · rw [hold _ (by omega)]; exact d
    · rw [hS] at hnd
      obtain ⟨_, n2, n3⟩ := List.nodup_append.1 hnd
      rcases List.mem_append.1 hm with hm | hm
      · exact n3 q hm q (List.mem_flatMap.2 ⟨i, by simpa using hi, hq⟩) rfl
      · have h4 := (List.pairwise_flatMap.1 n2).2
        have h5 : ∀ a b, a < b → b < M.length → ∀ x, x ∈ Ss a → x ∉ Ss b := by
          intro a b hab hbl x hx hx2
          have := (List.pairwise_iff_getElem.1 h4) a b (by simp; omega) (by simpa using hbl) hab
          simp only [List.getElem_range] at this
          exact this x hx x hx2 rfl
        rcases Nat.lt_or_gt_of_ne e with h6 | h6
        · exact h5 i j h6 hlt q hq hm
        · exact h5 j i h6 hi q hm hq
end Go.Proofs.Ytejkkdnjdfehjaa.termu
