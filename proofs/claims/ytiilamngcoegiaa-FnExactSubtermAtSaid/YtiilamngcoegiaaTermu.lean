/-
  CONTRACTS OF THE LAWS' OWN FUNCTIONS ON TERMS: eqTerm (at equal terms), markTerm and heldTermS, and those of their rows.
-/
import Derived.Test.YtiilamngcoegiaaTermt
namespace Go.Proofs.Ytiilamngcoegiaa.termu
open Go.ChangeShapes Go.WideShapes Go.ChangeAt Go.RowKit
open mem dec rowl trm trmv terml termt

theorem op_mk (o : Int) (n : List UInt8) (s : Int) (l : List TermM) : (TermM.mk o n s l).op = o := rfl
theorem name_mk (o : Int) (n : List UInt8) (s : Int) (l : List TermM) : (TermM.mk o n s l).name = n := rfl
theorem sort_mk (o : Int) (n : List UInt8) (s : Int) (l : List TermM) : (TermM.mk o n s l).sort = s := rfl
theorem args_mk (o : Int) (n : List UInt8) (s : Int) (l : List TermM) : (TermM.mk o n s l).args = l := rfl
/-- laws.eqTermS, at equal terms of at most this depth -/
def EqS (n : Nat) : Prop := ∀ (L : List TermM) (va vb : Value) (w : World) (lo lo' : Nat), HasTs n lo w va L → HasTs n lo' w vb L →
  Calls Try.prog 31 #[va, vb] w fun e w' => e = .returned (.bool true) ∧ Below w.heap.size w w'
/-- laws.eqTerm -/
theorem eqTerm_of {n : Nat} (hS : EqS n) (op : Int) (l : List UInt8) (s : Int) (L : List TermM) (va vb : Value) (w : World) {lo lo' : Nat} (ha : HasTs n lo w va L) (hb : HasTs n lo' w vb L) :
    Calls Try.prog 15 #[.agg #[.int .i64 op, .string (bstr l), .int .i64 s, va], .agg #[.int .i64 op, .string (bstr l), .int .i64 s, vb]] w fun e w' => e = .returned (.bool true) ∧ Below w.heap.size w w' := by
  have HE := Lib.hid (fun W (hW : Below w.heap.size w W) => hS L va vb W lo lo' (ha.below (Nat.le_refl _) hW) (hb.below (Nat.le_refl _) hW))
  obtain ⟨A, ca, rfl, _⟩ := HasR.shape ha rfl
  obtain ⟨B, cb, rfl, _⟩ := HasR.shape hb rfl
  obtain ⟨k, hk⟩ : ∃ k, k = L.length := ⟨_, rfl⟩
  rw [← hk] at HE ⊢
  clear ha hb hk
  go_enter Try.func15, Try.ntmps15
  go_wp2_with fail
  refine (HE.out _ (((Below.refl _ _).alloc (Nat.le_refl _) _).alloc (by simp) _)).mono ?_
  rintro e w1 ⟨rfl, hb1⟩
  have hbw : Below w.heap.size w w1 := (((Below.refl _ _).alloc (Nat.le_refl _) _).alloc (by simp) _).trans (hb1.mono (by simp; omega))
  clear hb1
  go_wp2
  go_ret
  exact ⟨rfl, hbw⟩
/-- eight cells stay, whatever a call adds -/
theorem keep_eight {wr w0 w1 : World} {g g' o o' : Nat} {a0 a1 a2 a3 b0 b1 b2 b3 : Value}
    (h : (w0.cell? ⟨g, o, none⟩ = some a0 ∧ w0.cell? ⟨g, o + 1, none⟩ = some a1 ∧ w0.cell? ⟨g, o + 2, none⟩ = some a2 ∧ w0.cell? ⟨g, o + 3, none⟩ = some a3 ∧
      w0.cell? ⟨g', o', none⟩ = some b0 ∧ w0.cell? ⟨g', o' + 1, none⟩ = some b1 ∧ w0.cell? ⟨g', o' + 2, none⟩ = some b2 ∧ w0.cell? ⟨g', o' + 3, none⟩ = some b3) ∧ Below wr.heap.size wr w0)
    (hp : g < wr.heap.size ∧ g' < wr.heap.size) (hb : Below w0.heap.size w0 w1) :
    (w1.cell? ⟨g, o, none⟩ = some a0 ∧ w1.cell? ⟨g, o + 1, none⟩ = some a1 ∧ w1.cell? ⟨g, o + 2, none⟩ = some a2 ∧ w1.cell? ⟨g, o + 3, none⟩ = some a3 ∧
      w1.cell? ⟨g', o', none⟩ = some b0 ∧ w1.cell? ⟨g', o' + 1, none⟩ = some b1 ∧ w1.cell? ⟨g', o' + 2, none⟩ = some b2 ∧ w1.cell? ⟨g', o' + 3, none⟩ = some b3) ∧ Below wr.heap.size wr w1 := by
  have hs := h.2.size
  have k : ∀ x, w1.cell? ⟨g, x, none⟩ = w0.cell? ⟨g, x, none⟩ := fun x => hb.cell (p := ⟨g, x, none⟩) (by show g < _; omega)
  have k' : ∀ x, w1.cell? ⟨g', x, none⟩ = w0.cell? ⟨g', x, none⟩ := fun x => hb.cell (p := ⟨g', x, none⟩) (by show g' < _; omega)
  rw [k, k, k, k, k', k', k', k']
  exact ⟨h.1, h.2.trans (hb.mono hs)⟩
/-- three cells stay, whatever a call adds -/
theorem keep_three3 {wr w0 w1 : World} {g o1 o2 o3 : Nat} {a1 a2 a3 : Value} (h : (w0.cell? ⟨g, o1, none⟩ = some a1 ∧ w0.cell? ⟨g, o2, none⟩ = some a2 ∧ w0.cell? ⟨g, o3, none⟩ = some a3) ∧ Below wr.heap.size wr w0)
    (hp : g < wr.heap.size) (hb : Below w0.heap.size w0 w1) : (w1.cell? ⟨g, o1, none⟩ = some a1 ∧ w1.cell? ⟨g, o2, none⟩ = some a2 ∧ w1.cell? ⟨g, o3, none⟩ = some a3) ∧ Below wr.heap.size wr w1 := by
  have hs := h.2.size
  have k : ∀ x, w1.cell? ⟨g, x, none⟩ = w0.cell? ⟨g, x, none⟩ := fun x => hb.cell (p := ⟨g, x, none⟩) (by show g < _; omega)
  rw [k, k, k]
  exact ⟨h.1, h.2.trans (hb.mono hs)⟩
theorem eqS_step {n : Nat} (hS : ∀ k, n = k + 1 → EqS k) : EqS n := by
  intro L va vb w lo lo' ha hb
  obtain ⟨N, hN⟩ : ∃ N, N = L.length := ⟨_, rfl⟩
  obtain ⟨A, ca, rfl, ha⟩ := HasR.shape ha hN.symm
  obtain ⟨B, cb, rfl, hb⟩ := HasR.shape hb hN.symm
  have hla := ha.len.2.1
  have HA := Lib.hid ha
  have HB := Lib.hid hb
  have HS := Lib.hid hS
  clear ha hb hN hS
  go_enter Try.func31, Try.ntmps31
  go_wp2
  go_loopw [5] (fun i wr => ∃ k : Nat, k ≤ N ∧ i = .int .i64 k ∧ Below w.heap.size w wr) (fun i _ => N - (intOf i).toNat)
  case atStart => exact ⟨0, Nat.zero_le _, rfl, Below.refl _ _⟩
  case round =>
    obtain ⟨k, hk, rfl, hbel⟩ := hrel
    by_cases hlt : k < N
    · obtain ⟨ka, ga, oa, A2, a2, hna, rfl, _, hga, ha0, ha1, ha2, ha3, hha, _⟩ := term_at HA.out hlt
      obtain ⟨kb, gb, ob, B2, b2, hnb, rfl, _, hgb, hb0, hb1, hb2, hb3, hhb, _⟩ := term_at HB.out hlt
      obtain rfl : ka = kb := by omega
      have qa : ∀ x, w.cell? ⟨ga, x, none⟩ = wr.cell? ⟨ga, x, none⟩ := fun x => (hbel.cell (p := ⟨ga, x, none⟩) hga).symm
      have qb : ∀ x, w.cell? ⟨gb, x, none⟩ = wr.cell? ⟨gb, x, none⟩ := fun x => (hbel.cell (p := ⟨gb, x, none⟩) hgb).symm
      rw [qa] at ha0 ha1 ha2 ha3
      rw [qb] at hb0 hb1 hb2 hb3
      have hga2 : ga < wr.heap.size := Nat.lt_of_lt_of_le hga hbel.size
      have hgb2 : gb < wr.heap.size := Nat.lt_of_lt_of_le hgb hbel.size
      have hh1 := hha.below (Nat.le_refl _) hbel
      have hh2 := hhb.below (Nat.le_refl _) hbel
      obtain ⟨⟨op, nm, so, D⟩, hd⟩ : ∃ d, d = L.getD k default := ⟨_, rfl⟩
      rw [← hd] at ha0 ha1 ha2 ha3 hb0 hb1 hb2 hb3 hh1 hh2
      obtain ⟨m, hm⟩ : ∃ m, m = D.length := ⟨_, rfl⟩
      simp only [TermM.op, TermM.name, TermM.sort, TermM.args, ← hm] at ha0 ha1 ha2 ha3 hb0 hb1 hb2 hb3 hh1 hh2
      have HE := Lib.hid (fun W (hW : Below wr.heap.size wr W) => eqTerm_of (HS.out ka hna) op nm so D _ _ W (hh1.below (Nat.le_refl _) hW) (hh2.below (Nat.le_refl _) hW))
      clear hh1 hh2 hha hhb hd hm qa qb hna hnb
      go_wp2_with fail
      go_region_held3 (fun w' => (w'.cell? ⟨ga, oa + k * 4, none⟩ = some (.int .i64 op) ∧ w'.cell? ⟨ga, oa + k * 4 + 1, none⟩ = some (.string (bstr nm)) ∧ w'.cell? ⟨ga, oa + k * 4 + 2, none⟩ = some (.int .i64 so) ∧ w'.cell? ⟨ga, oa + k * 4 + 3, none⟩ = some (.slice A2 m a2) ∧
          w'.cell? ⟨gb, ob + k * 4, none⟩ = some (.int .i64 op) ∧ w'.cell? ⟨gb, ob + k * 4 + 1, none⟩ = some (.string (bstr nm)) ∧ w'.cell? ⟨gb, ob + k * 4 + 2, none⟩ = some (.int .i64 so) ∧ w'.cell? ⟨gb, ob + k * 4 + 3, none⟩ = some (.slice B2 m b2)) ∧ Below wr.heap.size wr w')
        (first | (refine ⟨⟨?_, ?_, ?_, ?_, ?_, ?_, ?_, ?_⟩, (Below.refl _ _).drew⟩ <;> assumption) | (go_split_ands; exact keep_eight (g := ga) (g' := gb) ⟨⟨by assumption, by assumption, by assumption, by assumption, by assumption, by assumption, by assumption, by assumption⟩, by assumption⟩ ⟨hga2, hgb2⟩ (by assumption)))
        ((go_at_call 15; go_split_ands; refine (HE.out _ (by assumption)).mono ?_; rintro e w1 ⟨rfl, hb1⟩))
      go_wp2
      go_roundw
      case rel =>
        have hh : Below wr.heap.size wr w1 := by go_split_ands; assumption
        exact ⟨k + 1, by omega, by go_num, hbel.trans (hh.mono hbel.size)⟩
      case measure => simp [intOf]; omega
    · obtain rfl : k = N := by omega
      go_wp2
      go_ret
      exact ⟨rfl, hbel⟩
theorem eqTermS_same : ∀ n, EqS n
  | 0 => eqS_step (fun k h => by omega)
  | n + 1 => eqS_step (fun k h => Nat.succ.inj h ▸ eqTermS_same n)
theorem eqS_any {n m : Nat} (L : List TermM) (va vb : Value) (w : World) {lo lo' : Nat} (ha : HasTs n lo w va L) (hb : HasTs m lo' w vb L) :
    Calls Try.prog 31 #[va, vb] w fun e w' => e = .returned (.bool true) ∧ Below w.heap.size w w' :=
  eqTermS_same (max n m) L va vb w lo lo' (ha.up (Nat.le_max_left _ _)) (hb.up (Nat.le_max_right _ _))
theorem eqTerm_any {n m : Nat} (op : Int) (l : List UInt8) (s : Int) (L : List TermM) (va vb : Value) (w : World) {lo lo' : Nat} (ha : HasTs n lo w va L) (hb : HasTs m lo' w vb L) :
    Calls Try.prog 15 #[.agg #[.int .i64 op, .string (bstr l), .int .i64 s, va], .agg #[.int .i64 op, .string (bstr l), .int .i64 s, vb]] w fun e w' => e = .returned (.bool true) ∧ Below w.heap.size w w' :=
  eqTerm_of (eqTermS_same (max n m)) op l s L va vb w (ha.up (Nat.le_max_left _ _)) (hb.up (Nat.le_max_right _ _))
theorem far_cell {w : World} {g i j : Nat} {v : Value} (h : i ≠ j) : (w.setCell ⟨g, i, none⟩ v).cell? ⟨g, j, none⟩ = w.cell? ⟨g, j, none⟩ :=
  World.cell?_setCell_other w ⟨g, i, none⟩ ⟨g, j, none⟩ v (fun e => h (congrArg Addr.off e))
/-- the text of a mark -/
def tx (k : Nat) : List UInt8 := 109 :: dig k
/-- the first j terms marked -/
noncomputable def mixT (L : List TermM) (k j : Nat) : List TermM := (mkL tx L k).take j ++ L.drop j
theorem mixT_len (L : List TermM) (k j : Nat) (hj : j ≤ L.length) : (mixT L k j).length = L.length := by
  simp [mixT, mkL_len]; omega
theorem mixT_at (L : List TermM) (k j : Nat) (hj : j < L.length) : (mixT L k j).getD j default = L.getD j default := by
  simp [mixT, List.getD, mkL_len, List.getElem?_append, Nat.min_eq_left (Nat.le_of_lt hj)]
theorem mixT_step (L : List TermM) (k j : Nat) (hj : j < L.length) : mixT L k (j + 1) = (mixT L k j).set j (mkT tx (L.getD j default) (offs L k j)) := by
  have h1 : j < (mkL tx L k).length := by rw [mkL_len]; exact hj
  have h2 := mkL_get tx L k j hj
  rw [getD_at h1] at h2
  have h3 : ((mkL tx L k).take j).length = j := by rw [List.length_take]; omega
  rw [mixT, List.take_succ_eq_append_getElem h1, h2, mixT, List.set_append_right _ _ (by omega), h3, Nat.sub_self]
  conv => rhs; rw [List.drop_eq_getElem_cons hj]
  rw [List.set_cons_zero, List.append_assoc]
  rfl
theorem mixT_zero (L : List TermM) (k : Nat) : mixT L k 0 = L := by simp [mixT]
theorem mixT_all (L : List TermM) (k : Nat) : mixT L k L.length = mkL tx L k := by simp [mixT, ← mkL_len tx L k]
/-- one element written, its row too -/
theorem ot_set {T : TypeId} {n lo : Nat} {w w' : World} {v : Value} {M : List TermM} {S : List Nat} {xs xs' : List Value} {vs : Nat → Value} {Ss : Nat → List Nat} (hS : S = v.ownBlock.toList ++ (List.range M.length).flatMap Ss) (hnd : S.Nodup)
    (hj : ∀ j, j < M.length → Cells4 xs j (M.getD j default) (vs j) ∧ Bnd (M.getD j default) ∧ OT T n lo w (vs j) (M.getD j default).args (Ss j))
    {j : Nat} {t : TermM} (hlt : j < M.length) (ho : w'.ownsRow lo T 4 v M.length xs') (hold : ∀ i, i < j * 4 ∨ j * 4 + 4 ≤ i → xs'[i]? = xs[i]?) (hnew : Cells4 xs' j t (vs j)) (hb : Bnd t)
    (hc : Chg (v.ownBlock.toList ++ Ss j) w w') (hot : OT T n lo w' (vs j) t.args (Ss j)) : OT T (n + 1) lo w' v (M.set j t) S := by
  refine ⟨xs', vs, Ss, by rw [List.length_set]; exact ho, by rw [List.length_set]; exact hS, hnd, fun i hi => ?_⟩
  rw [List.length_set] at hi
  by_cases e : i = j
  · subst e
    have : (M.set i t).getD i default = t := by simp [List.getD, hi]
    rw [this]
    exact ⟨hnew, hb, hot⟩
  · have : (M.set j t).getD i default = M.getD i default := by simp [List.getD, List.getElem?_set_ne (Ne.symm e)]
    rw [this]
    obtain ⟨⟨a, b, c, d⟩, h2, h3⟩ := hj i hi
    refine ⟨⟨?_, ?_, ?_, ?_⟩, h2, h3.chg hc (fun q hq hm => ?_)⟩
    · rw [hold _ (by omega)]; exact a
    · rw [hold _ (by omega)]; exact b
    · rw [hold _ (by omega)]; exact c
    · rw [hold _ (by omega)]; exact d
    · rw [hS] at hnd
      obtain ⟨_, n2, n3⟩ := List.nodup_append.1 hnd
      rcases List.mem_append.1 hm with hm | hm
      · exact n3 q hm q (List.mem_flatMap.2 ⟨i, by simpa using hi, hq⟩) rfl
      · have h4 := (List.pairwise_flatMap.1 n2).2
        have h5 : ∀ a b, a < b → b < M.length → ∀ x, x ∈ Ss a → x ∉ Ss b := by
          intro a b hab hbl x hx hx2
          have := (List.pairwise_iff_getElem.1 h4) a b (by simp; omega) (by simpa using hbl) hab
          simp only [List.getElem_range] at this
          exact this x hx x hx2 rfl
        rcases Nat.lt_or_gt_of_ne e with h6 | h6
        · exact h5 i j h6 hlt q hq hm
        · exact h5 j i h6 hi q hm hq
/-- laws.markTermS, at rows of one's own of at most this depth -/
def MkS (n : Nat) : Prop := ∀ (L : List TermM) (v : Value) (S : List Nat) (w : World) (lo k : Nat), OT 40 n lo w v L S → k + 3 * sizes L ≤ 1073741824 →
  Calls Try.prog 37 #[v, .int .i64 k] w fun e w' => e = .returned (.int .i64 ((k + 3 * sizes L : Nat) : Int)) ∧ OT 40 n lo w' v (mkL tx L k) S ∧ Chg S w w'
set_option maxRecDepth 20000 in
set_option maxHeartbeats 2000000 in
theorem mkS_step {n : Nat} (hS : ∀ k, n = k + 1 → MkS k) : MkS n := by
  intro L v S w lo k h hk
  cases n with
  | zero => exact h.elim
  | succ n =>
  have HS := Lib.hid (hS n rfl)
  obtain ⟨N, hN⟩ : ∃ N, N = L.length := ⟨_, rfl⟩
  have HN := Lib.hid hN
  obtain ⟨A, c, rfl⟩ := OT.shape h
  have hNl : N ≤ 1073741824 := by have := sizes_len L; omega
  rw [← hN] at h ⊢
  have HH := Lib.hid h
  clear h hS hN
  go_enter Try.func37, Try.ntmps37
  go_wp2
  go_loopw [1, 5] (fun v i wr => ∃ j : Nat, j ≤ N ∧ i = .int .i64 j ∧ v = .int .i64 ((offs L k j : Nat) : Int) ∧ Hid (OT 40 (n + 1) lo wr (.slice A N c) (mixT L k j) S) ∧ Chg S w wr) (fun _ i _ => N - (intOf i).toNat)
  case atStart => exact ⟨0, Nat.zero_le _, rfl, by simp [offs, sizes], Lib.hid (by rw [mixT_zero]; exact HH.out), Chg.refl _ _⟩
  case round =>
    obtain ⟨j, hj, rfl, rfl, HO, hchg⟩ := hrel
    by_cases hlt : j < N
    · have hlt2 : j < L.length := by have := HN.out; omega
      obtain ⟨xs, vs, Ss, ho, hS, hnd, hjj⟩ := HO.out
      have hml := mixT_len L k j (by omega)
      rw [hml, ← HN.out] at ho
      have hxs := ho.1
      obtain ⟨g, cap, hv, hlog, hgw⟩ := own_shape ho (by intro e; rw [e] at hxs; simp at hxs; omega)
      simp only [Value.slice.injEq] at hv
      obtain ⟨rfl, -, rfl⟩ := hv
      obtain ⟨hcl, hbd, hot⟩ := hjj j (by omega)
      rw [mixT_at L k j hlt2] at hcl hbd hot
      have hoff := offs_succ L k j hlt2
      have hoffle : offs L k j + 3 * size (L.getD j default) ≤ 1073741824 := by
        have h1 := offs_le hlt2 (k := k)
        omega
      obtain ⟨t, ht⟩ : ∃ t, t = L.getD j default := ⟨_, rfl⟩
      rw [← ht] at hcl hbd hot hoff hoffle
      have hst : 3 * size t = 3 + 3 * sizes t.args := by rw [← t.eta, size_mk]; simp only [TermM.args]; omega
      obtain ⟨p, hp⟩ : ∃ p, p = offs L k j := ⟨_, rfl⟩
      rw [← hp] at hoff hoffle ⊢
      have hp30 : p ≤ 1073741821 := by omega
      have hns : ∃ n', n = n' + 1 := by
        cases n with
        | zero => exact hot.elim
        | succ n => exact ⟨n, rfl⟩
      obtain ⟨A3, c3, hsl⟩ : ∃ A c, vs j = .slice A t.args.length c := by
        obtain ⟨n', rfl⟩ := hns
        exact OT.shape hot
      obtain ⟨c0, c1, c2, c3'⟩ := hcl
      have hgs : ∀ q ∈ Ss j, q ≠ g := by
        intro q hq e
        rw [hS] at hnd
        exact (List.nodup_append.1 hnd).2.2 g (by simp [Value.ownBlock]) q (List.mem_flatMap.2 ⟨j, by simp; omega, hq⟩) e.symm
      have hsub : ∀ q ∈ [g] ++ Ss j, q ∈ S := by
        intro q hq
        rw [hS]
        rcases List.mem_append.1 hq with hq | hq
        · exact List.mem_append.2 (.inl (by simpa [Value.ownBlock] using hq))
        · exact List.mem_append.2 (.inr (List.mem_flatMap.2 ⟨j, by simp; omega, hq⟩))
      obtain ⟨⟨v0, hw0⟩, hf0⟩ := own_get ho (i := j * 4) (by omega)
      obtain ⟨⟨v1, hw1⟩, hf1⟩ := own_get ho (i := j * 4 + 1) (by omega)
      obtain ⟨⟨v2, hw2⟩, hf2⟩ := own_get ho (i := j * 4 + 2) (by omega)
      have hw3 : wr.cell? ⟨g, j * 4 + 3, none⟩ = some (.slice A3 t.args.length c3) := by rw [ho.cellAt (j * 4 + 3) (by omega), c3', hsl]
      have HOWN := Lib.hid ho
      have HALL := Lib.hid (And.intro hS (And.intro hnd hjj))
      have HOT := Lib.hid hot
      have HB := Lib.hid hbd
      have HT := Lib.hid ht
      have HSL := Lib.hid hsl
      have HP := Lib.hid hp
      have HC := Lib.hid (And.intro c0 (And.intro c1 (And.intro c2 c3')))
      have HM := Lib.hid hml
      have HOF := Lib.hid hoff
      have HSB := Lib.hid hsub
      have HGS := Lib.hid hgs
      have HST := Lib.hid hst
      obtain ⟨q, hq⟩ : ∃ q, q = t.args.length := ⟨_, rfl⟩
      rw [← hq] at hw3
      have HQ := Lib.hid hq
      have HXS := Lib.hid hxs
      clear ho hS hnd hjj hot hbd ht hsl hp c0 c1 c2 c3' hml hoff hsub hgs hst hq hxs HO
      go_wp2_with fail
      refine (strl.mark_any (p + 1) (by omega) _).mono ?_
      rintro e w1 ⟨rfl, hb1⟩
      have hb1' := hb1
      obtain ⟨hcc, hff⟩ := bcell hb1
      have hg1 : g < (wr.setCell ⟨g, j * 4, none⟩ (.int .i64 p)).heap.size := by simpa [World.setCell] using hgw
      have HB1 := Lib.hid hb1
      have k1 : w1.cell? ⟨g, j * 4 + 1, none⟩ = some v1 := by rw [hcc _ _ hg1, far_cell (by omega)]; exact hw1
      have k2 : w1.cell? ⟨g, j * 4 + 2, none⟩ = some v2 := by rw [hcc _ _ hg1, far_cell (by omega)]; exact hw2
      have k3 : w1.cell? ⟨g, j * 4 + 3, none⟩ = some (.slice A3 q c3) := by rw [hcc _ _ hg1, far_cell (by omega)]; exact hw3
      have f1 : w1.frozen? ⟨g, j * 4 + 1, none⟩ = false := by rw [hff _ _ hg1, World.frozen?_setCell]; exact hf1
      have f2 : w1.frozen? ⟨g, j * 4 + 2, none⟩ = false := by rw [hff _ _ hg1, World.frozen?_setCell]; exact hf2
      have HCH : Hid (Chg [g] wr w1) := Lib.hid ((Chg.set (by simp) _).trans (Chg.of_below hb1))
      have HO1 := Lib.hid (own_below (setCell_own HOWN.out (j * 4) (.int .i64 p)) hb1)
      clear hb1 hb1' hcc hff
      go_wp2_with fail
      have hcast : (((p + 3 : Nat) : Int)) = (p : Int) + 1 + 1 + 1 := by omega
      have HO2 := Lib.hid (setCell_own (setCell_own HO1.out (j * 4 + 1) (.string (bstr (109 :: dig (p + 1))))) (j * 4 + 2) (.int .i64 ((p : Int) + 1 + 1)))
      have HCH2 : Hid (Chg [g] wr ((w1.setCell ⟨g, j * 4 + 1, none⟩ (.string (bstr (109 :: dig (p + 1))))).setCell ⟨g, j * 4 + 2, none⟩ (.int .i64 ((p : Int) + 1 + 1)))) := Lib.hid (chg_set1 (chg_set1 HCH.out _ _) _ _)
      have hC := HS.out t.args (vs j) (Ss j) _ lo (p + 3) (HOT.out.chg HCH2.out (fun q hq => by simpa using HGS.out q hq)) (by have := HST.out; omega)
      rw [HSL.out, ← HQ.out, hcast] at hC
      refine hC.mono ?_
      rintro e w4 ⟨rfl, h4, hc4⟩
      have H4 := Lib.hid h4
      have HC4 := Lib.hid hc4
      have hlast : ((p + 3 + 3 * sizes t.args : Nat) : Int) = ((offs L k (j + 1) : Nat) : Int) := by have h1 := HOF.out; have h2 := HST.out; omega
      clear h4 hc4 hC
      go_wp2
      go_roundw
      case rel =>
        obtain ⟨hS, hnd, hjj⟩ := HALL.out
        obtain ⟨c0, c1, c2, c3'⟩ := HC.out
        have hxs := HXS.out
        have hchg4 : Chg ([g] ++ Ss j) wr w4 := (HCH2.out.mono (fun q hq => List.mem_append.2 (.inl hq))).trans (HC4.out.mono (fun q hq => List.mem_append.2 (.inr hq)))
        have hmk : mkT tx t p = .mk (p : Int) (109 :: dig (p + 1)) ((p + 2 : Nat) : Int) (mkL tx t.args (p + 3)) := by have h := mkT_mk tx t.op t.name t.sort t.args p; rw [t.eta] at h; exact h
        have hd : (dig (p + 1)).length ≤ 20 := dig_le64 (by omega)
        refine ⟨j + 1, by omega, by go_num, hlast ▸ rfl, Lib.hid ?_, hchg.trans (hchg4.mono HSB.out)⟩
        rw [mixT_step L k j hlt2, ← HT.out, ← HP.out]
        have hown := HC4.out.own HO2.out (by intro q hq; simp [Value.ownBlock] at hq; subst hq; intro hm; exact HGS.out _ hm rfl)
        have hml := HM.out
        have hN := HN.out
        refine ot_set hS hnd hjj (by omega) (by rw [hml, ← hN]; exact hown) (fun i hi => ?_) ?_ ?_ hchg4 ?_
        · rw [List.getElem?_set_ne (by omega), List.getElem?_set_ne (by omega), List.getElem?_set_ne (by omega)]
        · rw [hmk]
          refine ⟨?_, ?_, ?_, ?_⟩
          · rw [List.getElem?_set_ne (by omega), List.getElem?_set_ne (by omega), List.getElem?_set_self (by omega)]; rfl
          · rw [List.getElem?_set_ne (by omega), List.getElem?_set_self (by simp; omega)]; rfl
          · rw [List.getElem?_set_self (by simp; omega)]; simp only [TermM.sort]; congr 2
          · rw [List.getElem?_set_ne (by omega), List.getElem?_set_ne (by omega), List.getElem?_set_ne (by omega)]; exact c3'
        · rw [hmk]
          refine ⟨?_, ?_, ?_⟩
          · simp only [TermM.name, List.length_cons]; unfold maxLen; omega
          · simp only [TermM.op, I64]; omega
          · simp only [TermM.sort, I64]; omega
        · rw [hmk, HSL.out, ← HQ.out]; exact H4.out
      case measure => simp [intOf]; omega
    · obtain rfl : j = N := by omega
      have HE : Hid (OT 40 (n + 1) lo wr (.slice A j c) (mkL tx L k) S ∧ offs L k j = k + 3 * sizes L) := Lib.hid (by
        have h1 := HO.out
        have h2 := HN.out
        refine ⟨by rw [← mixT_all, ← h2]; exact h1, ?_⟩
        rw [offs, h2, List.take_length])
      go_wp2
      go_ret
      exact ⟨ret_int (by rw [HE.out.2]), HE.out.1, hchg⟩
theorem markTermS_any : ∀ n, MkS n
  | 0 => mkS_step (fun k h => by omega)
  | n + 1 => mkS_step (fun k h => Nat.succ.inj h ▸ markTermS_any n)
/-- laws.markTerm: marks the arguments' nodes alone -/
theorem markTerm_any {n : Nat} (op : Int) (l : List UInt8) (s : Int) (L : List TermM) (v : Value) (S : List Nat) (w : World) {lo k : Nat} (h : OT 40 n lo w v L S) (hk : k + 3 * sizes L ≤ 1073741824) :
    Calls Try.prog 17 #[.agg #[.int .i64 op, .string (bstr l), .int .i64 s, v], .int .i64 k] w fun e w' => e = .returned (.int .i64 ((k + 3 * sizes L : Nat) : Int)) ∧ OT 40 n lo w' v (mkL tx L k) S ∧ Chg S w w' := by
  have HM := Lib.hid (fun W (hW : Below w.heap.size w W) => markTermS_any n L v S W lo k (h.below hW) hk)
  obtain ⟨A, c, rfl⟩ : ∃ A c, v = .slice A L.length c := by
    cases n with
    | zero => exact h.elim
    | succ n => exact OT.shape h
  obtain ⟨q, hq⟩ : ∃ q, q = L.length := ⟨_, rfl⟩
  rw [← hq] at HM ⊢
  clear h hq
  go_enter Try.func17, Try.ntmps17
  go_wp2_with fail
  refine (HM.out _ ((Below.refl _ _).alloc (Nat.le_refl _) _)).mono ?_
  rintro e w1 ⟨rfl, h1, hc1⟩
  have H1 := Lib.hid (And.intro h1 hc1)
  clear h1 hc1
  go_wp2
  go_ret
  exact ⟨rfl, H1.out.1, (Chg.of_below ((Below.refl _ _).alloc (Nat.le_refl _) _)).trans H1.out.2⟩
/-- laws.heldTermS, at terms of at most this depth -/
def HtS (n : Nat) : Prop := ∀ (L : List TermM) (v : Value) (w : World) (lo k : Nat), HasTs n lo w v (mkL tx L k) → k + 3 * sizes L ≤ 1073741824 →
  Calls Try.prog 38 #[v, .int .i64 k] w fun e w' => e = .returned (.int .i64 ((k + 3 * sizes L : Nat) : Int)) ∧ Below w.heap.size w w'
set_option maxRecDepth 20000 in
set_option maxHeartbeats 2000000 in
theorem htS_step {n : Nat} (hS : ∀ k, n = k + 1 → HtS k) : HtS n := by
  intro L v w lo k h hk
  obtain ⟨N, hN⟩ : ∃ N, N = L.length := ⟨_, rfl⟩
  obtain ⟨A, c, rfl, h⟩ := HasR.shape (n := N) h (by rw [mkL_len]; exact hN.symm)
  have hNl : N ≤ 1073741824 := by have := sizes_len L; omega
  have HN := Lib.hid hN
  have HH := Lib.hid h
  have HS := Lib.hid hS
  clear h hN hS
  go_enter Try.func38, Try.ntmps38
  go_wp2
  go_loopw [1, 5] (fun v i wr => ∃ j : Nat, j ≤ N ∧ i = .int .i64 j ∧ v = .int .i64 ((offs L k j : Nat) : Int) ∧ Below w.heap.size w wr) (fun _ i _ => N - (intOf i).toNat)
  case atStart => exact ⟨0, Nat.zero_le _, rfl, by simp [offs, sizes], Below.refl _ _⟩
  case round =>
    obtain ⟨j, hj, rfl, rfl, hbel⟩ := hrel
    by_cases hlt : j < N
    · have hlt2 : j < L.length := by have := HN.out; omega
      obtain ⟨k', g, o, A2, c2, hnk, rfl, _, hg, hc0, hc1, hc2, hc3, hh, _⟩ := term_at HH.out hlt
      rw [mkL_get tx L k j hlt2] at hc0 hc1 hc2 hc3 hh
      have hoff := offs_succ L k j hlt2
      have hoffle : offs L k j + 3 * size (L.getD j default) ≤ 1073741824 := by
        have h1 := offs_le hlt2 (k := k)
        omega
      obtain ⟨t, ht⟩ : ∃ t, t = L.getD j default := ⟨_, rfl⟩
      rw [← ht] at hc0 hc1 hc2 hc3 hh hoff hoffle
      have hst : 3 * size t = 3 + 3 * sizes t.args := by rw [← t.eta, size_mk]; simp only [TermM.args]; omega
      obtain ⟨p, hp⟩ : ∃ p, p = offs L k j := ⟨_, rfl⟩
      rw [← hp] at hc0 hc1 hc2 hc3 hh hoff hoffle ⊢
      have hmk : mkT tx t p = .mk (p : Int) (109 :: dig (p + 1)) ((p + 2 : Nat) : Int) (mkL tx t.args (p + 3)) := by have h := mkT_mk tx t.op t.name t.sort t.args p; rw [t.eta] at h; exact h
      rw [hmk] at hc0 hc1 hc2 hc3 hh
      simp only [op_mk, name_mk, sort_mk, args_mk] at hc0 hc1 hc2 hc3 hh
      have hcast : (((p + 3 : Nat) : Int)) = (p : Int) + 1 + 1 + 1 := by omega
      have hcast2 : (((p + 2 : Nat) : Int)) = (p : Int) + 1 + 1 := by omega
      rw [hcast2] at hc2
      have hp30 : p ≤ 1073741821 := by omega
      have kk : ∀ x, w.cell? ⟨g, x, none⟩ = wr.cell? ⟨g, x, none⟩ := fun x => (hbel.cell (p := ⟨g, x, none⟩) hg).symm
      rw [kk] at hc0 hc1 hc2 hc3
      have hg2 : g < wr.heap.size := Nat.lt_of_lt_of_le hg hbel.size
      have hh2 := hh.below (Nat.le_refl _) hbel
      have HC := Lib.hid (fun W (hW : Below wr.heap.size wr W) => (hcast ▸ HS.out k' hnk t.args _ W lo (p + 3) (hh2.below (Nat.le_refl _) hW) (by omega) :
        Calls Try.prog 38 #[.slice A2 (mkL tx t.args (p + 3)).length c2, .int .i64 ((p : Int) + 1 + 1 + 1)] W fun e w' => e = .returned (.int .i64 ((p + 3 + 3 * sizes t.args : Nat) : Int)) ∧ Below W.heap.size W w'))
      obtain ⟨q, hq⟩ : ∃ q, q = (mkL tx t.args (p + 3)).length := ⟨_, rfl⟩
      rw [← hq] at HC hc3
      have hlast : ((p + 3 + 3 * sizes t.args : Nat) : Int) = ((offs L k (j + 1) : Nat) : Int) := by omega
      rw [hlast] at HC
      have HLN : Hid (0 ≤ ((offs L k (j + 1) : Nat) : Int) ∧ ((offs L k (j + 1) : Nat) : Int) ≤ 1073741824) := Lib.hid (by omega)
      obtain ⟨z, hz⟩ : ∃ z, z = ((offs L k (j + 1) : Nat) : Int) := ⟨_, rfl⟩
      rw [← hz] at HC HLN
      have HZ := Lib.hid hz
      have hz1 := HLN.out
      obtain ⟨hz1, hz2⟩ := hz1
      clear hh hh2 hq ht hp hmk hst hoff hz kk hlast hcast hcast2
      go_wp2_with fail
      go_region_held3 (fun w' => (w'.cell? ⟨g, o + j * 4 + 1, none⟩ = some (.string (bstr (109 :: dig (p + 1)))) ∧ w'.cell? ⟨g, o + j * 4 + 2, none⟩ = some (.int .i64 ((p : Int) + 1 + 1)) ∧ w'.cell? ⟨g, o + j * 4 + 3, none⟩ = some (.slice A2 q c2)) ∧ Below wr.heap.size wr w')
        (first | (refine ⟨⟨?_, ?_, ?_⟩, (Below.refl _ _).drew⟩ <;> assumption) | (go_split_ands; exact keep_three3 (g := g) ⟨⟨by assumption, by assumption, by assumption⟩, by assumption⟩ hg2 (by assumption)))
        ((go_at_call 51; refine (strl.mark_any (p + 1) (by omega) _).mono ?_; rintro e w1 ⟨rfl, hb1⟩))
      go_split_ands
      have hbw1 : Below wr.heap.size wr w1 := by assumption
      go_wp2_with fail
      refine (HC.out _ hbw1).mono ?_
      rintro e w2 ⟨rfl, hb2⟩
      have hbw2 := hbw1.trans (hb2.mono hbw1.size)
      clear hb2
      go_wp2
      go_roundw
      case rel => exact ⟨j + 1, by omega, by go_num, by rw [← HZ.out], hbel.trans (hbw2.mono hbel.size)⟩
      case measure => simp [intOf]; omega
    · obtain rfl : j = N := by omega
      have HE : Hid (offs L k j = k + 3 * sizes L) := Lib.hid (by
        have h2 := HN.out
        rw [offs, h2, List.take_length])
      go_wp2
      go_ret
      exact ⟨ret_int (by rw [HE.out]), hbel⟩
theorem heldTermS_any : ∀ n, HtS n
  | 0 => htS_step (fun k h => by omega)
  | n + 1 => htS_step (fun k h => Nat.succ.inj h ▸ heldTermS_any n)
end Go.Proofs.Ytiilamngcoegiaa.termu
