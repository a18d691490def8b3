/-
  CONTRACTS OF THE PROGRAM'S COMPARISON OF TERMS: compareLists, CompareTerms, areEqualTerms.
-/
import Derived.Test.YtiilamngcoegiaaTermw
import Derived.Deep.RegionLaw
namespace Go.Proofs.Ytiilamngcoegiaa.termx
open Go.ChangeShapes Go.WideShapes Go.ChangeAt Go.RowKit
open mem dec rowl trm trmv terml termb termt termw

/-- what is still to compare, the newest first: values and terms -/
abbrev Stk := List (Value × Value × List TermM × List TermM)
noncomputable def cmpS : Stk → Int
  | [] => 0
  | p :: R => if cmpL p.2.2.1 p.2.2.2 ≠ 0 then cmpL p.2.2.1 p.2.2.2 else cmpS R
noncomputable def wtS : Stk → Nat
  | [] => 0
  | p :: R => 2 * sizes p.2.2.1 + 1 + wtS R
def flat : Stk → List Value
  | [] => []
  | p :: R => flat R ++ [p.1, p.2.1]
theorem flat_len : ∀ R : Stk, (flat R).length = R.length * 2
  | [] => rfl
  | p :: R => by simp [flat, flat_len R]; omega
theorem wtS_len : ∀ R : Stk, R.length ≤ wtS R
  | [] => Nat.le_refl _
  | p :: R => by have := wtS_len R; simp only [wtS, List.length_cons]; omega
theorem cmpL_nil {l m : List TermM} (h : l = [] ∨ m = []) : cmpL l m = cmpI l.length m.length := by
  refine cmpL_end (fun j h1 h2 => ?_)
  rcases h with rfl | rfl
  · simp at h1
  · simp at h2
theorem cmpL_cons (a b : TermM) (l m : List TermM) : cmpL (a :: l) (b :: m) = if cmp a b ≠ 0 then cmp a b else cmpL l m := rfl
/-- one step down -/
theorem cmpS_down (a b : TermM) (l m : List TermM) (va vb : Value) (R : Stk) (h : cmpN a b = 0) (u v u' v' : Value) :
    cmpS ((va, vb, a :: l, b :: m) :: R) = cmpS ((u, v, a.args, b.args) :: (u', v', l, m) :: R) := by
  have hx : cmpL (a :: l) (b :: m) = if cmpL a.args b.args ≠ 0 then cmpL a.args b.args else cmpL l m := by
    rw [cmpL_cons, cmp_node a b, if_neg (by simp [h] : ¬ cmpN a b ≠ 0)]
  have e1 : cmpS ((va, vb, a :: l, b :: m) :: R) = if cmpL (a :: l) (b :: m) ≠ 0 then cmpL (a :: l) (b :: m) else cmpS R := rfl
  have e2 : cmpS ((u, v, a.args, b.args) :: (u', v', l, m) :: R) = if cmpL a.args b.args ≠ 0 then cmpL a.args b.args else if cmpL l m ≠ 0 then cmpL l m else cmpS R := rfl
  rw [e1, e2, hx]
  by_cases h1 : cmpL a.args b.args = 0
  · simp [h1]
  · simp [h1]
theorem cmpS_one (va vb u v : Value) (l m : List TermM) (R : Stk) : cmpS ((va, vb, l, m) :: R) = cmpS ((u, v, l, m) :: R) := rfl
theorem info_pair : (Try.prog.info? 75).map (fun i => (i.zero, i.size, i.bytes)) = some (some (.agg #[.slice none 0 0, .slice none 0 0]), 2, 48) := by kernel_rfl
theorem two_cells (w : World) (u v : Value) (t : TypeId) : ∀ (j : Nat) (x : Value), [u, v][j]? = some x → (w.alloc (.cells #[u, v] t)).cell? ((⟨w.heap.size, 0, none⟩ : Addr).add j) = some x := by
  intro j x hj
  match j, hj with
  | 0, hj => simp at hj; subst hj; simp [Addr.add]
  | 1, hj => simp at hj; subst hj; simp [Addr.add]
theorem two_one {u v : Value} (h : u.oneCell' = true) (h' : v.oneCell' = true) : ∀ x ∈ [u, v], x.oneCell' = true := by
  intro x hx
  simp at hx
  rcases hx with rfl | rfl
  · exact h
  · exact h'
/-- a[1:] of a row of terms -/
theorem tail_run {n lo m c : Nat} {w : World} {A : Option Addr} {x : TermM} {L : List TermM} (h : HasTs n lo w (.slice A m c) (x :: L)) :
    ∃ A4 c4, (∀ W, (Instr.sliceAt 29 (.slice A m c) (some (.int .i64 1)) none none).run Try.prog W = .ok (.slice A4 (m - 1) c4) W) ∧ HasTs n lo w (.slice A4 (m - 1) c4) L := by
  have hel : Try.prog.elem 29 = 40 := by kernel_rfl
  have hsl : Try.prog.underlying 29 = some (.slice (Try.prog.elem 29)) := by rw [hel]; exact Try.underlying29
  obtain ⟨i0, hi, hz0, hz1, hz2⟩ := info_parts info_term
  have hcs : Try.prog.cellsOf 40 = 4 := by kernel_rfl
  obtain ⟨hm, hm2, hmc⟩ := h.len
  rw [List.length_cons] at hm
  obtain ⟨g, o, cs, rfl, _⟩ := h.get (j := 0) (by omega)
  have hrun : ∀ W, (Instr.sliceAt 29 (.slice (some ⟨g, o, none⟩) m c) (some (.int .i64 1)) none none).run Try.prog W = .ok (sliced (some ⟨g, o, none⟩) 1 m c 4) W := fun W => by
    rw [run_sliceAt_slice W _ _ _ _ _ hsl, run_slice_l W _ _ _ _ hsl .i64 1 (by omega) (by omega), hel, run_sizeOf W hi, hcs]
    rfl
  by_cases h1 : c = 1
  · have hn1 : m = 1 := by omega
    refine ⟨some ⟨g, o, none⟩, c - 1, fun W => ?_, ?_⟩
    · rw [hrun W, sliced, if_pos h1]
    · have : L = [] := List.eq_nil_of_length_eq_zero (by omega)
      rw [this, hn1, h1]
      exact HasR.nil _ _ _ (by unfold maxLen; omega) _
  · refine ⟨some ⟨g, o + 4, none⟩, c - 1, fun W => ?_, HasR.tail h (by omega : 1 ≤ m)⟩
    rw [hrun W, sliced, if_neg h1]
    simp [Addr.add]
theorem flat_top {R : Stk} {p : Value × Value × List TermM × List TermM} {k : Nat} (hk : k = R.length) : (flat (p :: R))[k * 2]? = some p.1 ∧ (flat (p :: R))[k * 2 + 1]? = some p.2.1 := by
  have h := flat_len R
  rw [flat, hk]
  refine ⟨?_, ?_⟩
  · rw [List.getElem?_append_right (by omega), h, Nat.sub_self]; rfl
  · rw [List.getElem?_append_right (by omega), h, Nat.add_sub_cancel_left]; rfl
theorem flat_pop {R : Stk} {p : Value × Value × List TermM × List TermM} {k : Nat} (hk : k = R.length) : (flat (p :: R)).take (k * 2) = flat R := by
  have h := flat_len R
  rw [flat, hk, List.take_append_of_le_length (by omega), List.take_of_length_le (by omega)]
set_option maxRecDepth 50000 in
set_option maxHeartbeats 8000000 in
theorem lists_any {n : Nat} (L M : List TermM) (va vb : Value) (w : World) {lo lo' : Nat} (ha : HasTs n lo w va L) (hb : HasTs n lo' w vb M) (hsz : sizes L ≤ 2097152) :
    Calls Try.prog 29 #[va, vb] w fun e w' => e = .returned (.int .i64 (cmpL L M)) ∧ GB w.heap.size w w' := by
  obtain ⟨A, ca, rfl, ha⟩ := HasR.shape ha rfl
  obtain ⟨B, cb, rfl, hb⟩ := HasR.shape hb rfl
  have HA := Lib.hid ha
  have HB := Lib.hid hb
  obtain ⟨j0, hij, hy0, hy1, hy2⟩ := info_parts info_pair
  obtain ⟨O, hmk, hown0⟩ : ∃ O, (∀ W, (Instr.makeSlice 73 (.int .i64 0) (.int .i64 20)).run Try.prog W = .ok (.slice (some ⟨W.heap.size, 0, none⟩) 0 20) (W.alloc O)) ∧ ∀ W : World, (W.alloc O).ownsRow W.heap.size 75 2 (.slice (some ⟨W.heap.size, 0, none⟩) 0 20) 0 [] := by
    refine ⟨.cells (madeCells (Value.agg #[.slice none 0 0, .slice none 0 0]).cells ((20 : Int).toNat * j0.size)) 75, fun W => ?_, fun W => ?_⟩
    · exact run_make W _ _ _ _ Try.underlying73 hij hy0 .i64 .i64 0 20 (by omega) (by omega) (by rw [hy2]; omega) (by omega)
    · exact World.ownsRow_made W _ 20 (Nat.le_refl _) (by unfold maxLen; omega) (by rw [size_madeCells, hy1]; rfl)
  have HOW := Lib.hid (hown0 w)
  obtain ⟨NL, hNL⟩ : ∃ z, z = L.length := ⟨_, rfl⟩
  obtain ⟨NM, hNM⟩ : ∃ z, z = M.length := ⟨_, rfl⟩
  rw [← hNL] at HA ⊢
  rw [← hNM] at HB ⊢
  clear ha hb hown0 hNL hNM
  go_enter Try.func29, Try.ntmps29
  go_wp2_with fail
  have hgb0 : GB w.heap.size w (w.alloc O) := (GB.refl _ _).alloc (Nat.le_refl _) _
  have HW0 : Hid (w.heap.size < (w.alloc O).heap.size) := Lib.hid (by simp)
  generalize w.alloc O = W0 at hgb0 HOW HW0 ⊢
  go_loopg [0, 1, 5] (2 * sizes L) (fun gk v0 v1 v5 wr => ∃ (A : Option Addr) (na ca : Nat) (B : Option Addr) (nb cb : Nat) (la lb : List TermM) (R : Stk) (g k cap : Nat), v0 = .slice A na ca ∧ v1 = .slice B nb cb ∧ v5 = .slice (some ⟨g, 0, none⟩) k cap ∧
      Hid (HasTs n lo w (.slice A na ca) la ∧ HasTs n lo' w (.slice B nb cb) lb ∧ ∀ p ∈ R, HasTs n lo w p.1 p.2.2.1 ∧ HasTs n lo' w p.2.1 p.2.2.2) ∧ Hid (cmpS ((v0, v1, la, lb) :: R) = cmpL L M) ∧ k = R.length ∧ w.heap.size ≤ g ∧ (2 * sizes la + wtS R ≤ gk ∧ gk ≤ 4194304) ∧
      wr.ownsRow w.heap.size 75 2 (.slice (some ⟨g, 0, none⟩) k cap) k (flat R) ∧ GB w.heap.size w wr)
  case atStart =>
    refine ⟨A, NL, ca, B, NM, cb, L, M, [], w.heap.size, 0, 20, rfl, rfl, rfl, Lib.hid ⟨HA.out, HB.out, fun p hp => by simp at hp⟩, Lib.hid ?_, rfl, Nat.le_refl _, ⟨by simp [wtS], by omega⟩, HOW.out, hgb0⟩
    simp only [cmpS]
    by_cases h : cmpL L M = 0 <;> simp [h]
  case round =>
    obtain ⟨A, na, ca, B, nb, cb, la, lb, R, g, k, cap, rfl, rfl, rfl, HI, HE, hkR, hgl, ⟨hwt, hgk⟩, hown, hgb⟩ := hrel
    have HWT := Lib.hid hwt
    have HOWN := Lib.hid hown
    have hgw : g < wr.heap.size := by
      rcases hown.2 with ⟨hv, _⟩ | ⟨g', cap', cur, hv, hb, hg, _⟩
      · cases hv
      · simp only [Value.slice.injEq, Option.some.injEq, Addr.mk.injEq, and_true, true_and] at hv
        obtain ⟨rfl, rfl⟩ := hv
        exact (Array.getElem?_eq_some_iff.1 hg).1
    have hkk : k ≤ 4194304 := by have h1 := wtS_len R; omega
    have hkc : k ≤ cap := by obtain ⟨_, _, e, h⟩ := own_slice hown; cases e; exact h
    clear hown
    cases la with
    | nil =>
      obtain rfl : na = 0 := HI.out.1.len.1
      cases lb with
      | nil =>
        obtain rfl : nb = 0 := HI.out.2.1.len.1
        have hcmp : cmpI 0 0 = 0 := by decide
        cases R with
        | nil =>
          obtain rfl : k = 0 := hkR
          have HR : Hid (cmpL L M = 0) := Lib.hid (by rw [← HE.out]; rfl)
          go_wp2_with fail
          refine (comp_int 0 0 _).mono ?_
          rintro e w' ⟨rfl, rfl⟩
          rw [hcmp]
          go_wp2
          go_ret
          exact ⟨ret_int HR.out.symm, hgb⟩
        | cons p R =>
          obtain ⟨k', rfl⟩ : ∃ k', k = k' + 1 := ⟨R.length, by rw [hkR]; rfl⟩
          have hk2 : k' = R.length := by simpa using hkR
          obtain ⟨v1, v2, l1, m1⟩ := p
          have hp1 : HasTs n lo w v1 l1 := (HI.out.2.2 _ (List.mem_cons_self)).1
          have hp2 : HasTs n lo' w v2 m1 := (HI.out.2.2 _ (List.mem_cons_self)).2
          obtain ⟨A3, c3, rfl, hp1⟩ := HasR.shape hp1 rfl
          obtain ⟨B3, d3, rfl, hp2⟩ := HasR.shape hp2 rfl
          obtain ⟨ft1, ft2⟩ := flat_top (p := (.slice A3 l1.length c3, .slice B3 m1.length d3, l1, m1)) hk2
          have s1 := (HOWN.out.cellAt (k' * 2) (by omega)).trans ft1
          have s2 := (HOWN.out.cellAt (k' * 2 + 1) (by omega)).trans ft2
          have HPO : Hid (wr.ownsRow w.heap.size 75 2 (.slice (some ⟨g, 0, none⟩) k' cap) k' (flat R)) := Lib.hid (by
            have h := own_take HOWN.out (m := k') (by omega)
            rwa [flat_pop hk2] at h)
          have HP := Lib.hid (And.intro hp1 hp2)
          have HT : Hid (∀ p ∈ R, HasTs n lo w p.1 p.2.2.1 ∧ HasTs n lo' w p.2.1 p.2.2.2) := Lib.hid (fun p hp => HI.out.2.2 p (List.mem_cons_of_mem _ hp))
          have HE2 : Hid (cmpS ((.slice A3 l1.length c3, .slice B3 m1.length d3, l1, m1) :: R) = cmpL L M) := Lib.hid (by rw [← HE.out]; rfl)
          obtain ⟨n1, hn1⟩ : ∃ z, z = l1.length := ⟨_, rfl⟩
          obtain ⟨m2, hm2⟩ : ∃ z, z = m1.length := ⟨_, rfl⟩
          rw [← hn1] at s1 HP HE2
          rw [← hm2] at s2 HP HE2
          have hkc2 : k' + 1 ≤ cap := hkc
          have HK2 := Lib.hid hk2
          clear hp1 hp2 ft1 ft2 hn1 hm2 hwt hk2 hkR
          go_wp2_with fail
          refine (comp_int 0 0 _).mono ?_
          rintro e w' ⟨rfl, rfl⟩
          rw [hcmp]
          go_wp2
          go_quiet (fail)
          go_wp2
          go_roundg (2 * sizes l1 + wtS R)
          case measure => have := HWT.out; simp only [wtS] at this; omega
          case rel =>
            refine ⟨A3, n1, c3, B3, m2, d3, l1, m1, R, g, k', cap, rfl, rfl, ?_, Lib.hid ⟨HP.out.1, HP.out.2, HT.out⟩, HE2, HK2.out, hgl, ⟨Nat.le_refl _, ?_⟩, ?_, ?_⟩
            · first | rfl | go_num
            · have := HWT.out; simp only [wtS] at this; omega
            · exact own_below HPO.out (below_drewN (Below.refl _ _) _)
            · exact hgb.drewN _
      | cons y tb =>
        have hnb := HI.out.2.1.len.1
        rw [List.length_cons] at hnb
        have hcmp : cmpI 0 (nb : Int) = -1 := by unfold cmpI; rw [if_neg (by omega), if_pos (by omega)]
        have HR : Hid (cmpL L M = -1) := Lib.hid (by rw [← HE.out]; simp only [cmpS]; rw [if_pos (by simp [cmpL])]; rfl)
        have hnb0 : ¬ nb = 0 := by omega
        have hnbm := HI.out.2.1.len.2.1
        clear hnb
        go_wp2_with fail
        refine (comp_int 0 nb _).mono ?_
        rintro e w' ⟨rfl, rfl⟩
        rw [hcmp]
        go_wp2
        go_ret
        exact ⟨ret_int HR.out.symm, hgb⟩
    | cons x ta =>
      have hna := HI.out.1.len.1
      rw [List.length_cons] at hna
      have hna0 : ¬ na = 0 := by omega
      have hnam := HI.out.1.len.2.1
      cases lb with
      | nil =>
        obtain rfl : nb = 0 := HI.out.2.1.len.1
        have hcmp : cmpI (na : Int) 0 = 1 := by unfold cmpI; rw [if_neg (by omega), if_neg (by omega)]
        have HR : Hid (cmpL L M = 1) := Lib.hid (by rw [← HE.out]; simp only [cmpS]; rw [if_pos (by simp [cmpL])]; rfl)
        clear hna
        go_wp2_with fail
        refine (comp_int na 0 _).mono ?_
        rintro e w' ⟨rfl, rfl⟩
        rw [hcmp]
        go_wp2
        go_ret
        exact ⟨ret_int HR.out.symm, hgb⟩
      | cons y tb =>
        have hnb := HI.out.2.1.len.1
        rw [List.length_cons] at hnb
        have hnb0 : ¬ nb = 0 := by omega
        have hnbm := HI.out.2.1.len.2.1
        obtain ⟨ka, ga, oa, A2, ca2, hka, rfl, _, hga, c0, c1, c2, c3, hha, _⟩ := term_at HI.out.1 (j := 0) (by omega)
        obtain ⟨kb, gb, ob, B2, cb2, hkb, rfl, _, hgbl, e0, e1, e2, e3, hhb, _⟩ := term_at HI.out.2.1 (j := 0) (by omega)
        obtain ⟨A4, c4, ht0, ht1⟩ := tail_run HI.out.1
        obtain ⟨B4, d4, ht00, ht2⟩ := tail_run HI.out.2.1
        have eA : (x :: ta).getD 0 default = x := rfl
        have eB : (y :: tb).getD 0 default = y := rfl
        rw [eA] at c0 c1 c2 c3 hha
        rw [eB] at e0 e1 e2 e3 hhb
        simp only [Nat.zero_mul, Nat.add_zero] at c0 c1 c2 c3 e0 e1 e2 e3
        have HN := Lib.hid (And.intro hna hnb)
        have hd1 : decide (na = 0) = false := decide_eq_false hna0
        have hd2 : decide (nb = 0) = false := decide_eq_false hnb0
        have hd3 : decide ((na : Int) = 0) = false := decide_eq_false (by omega)
        have hd4 : decide ((nb : Int) = 0) = false := decide_eq_false (by omega)
        have hd5 : ((na : Int) == 0) = false := beq_eq_false_iff_ne.2 (by omega)
        have hd6 : ((nb : Int) == 0) = false := beq_eq_false_iff_ne.2 (by omega)
        have HT1 := Lib.hid ht1
        have HT2 := Lib.hid ht2
        have HKR := Lib.hid hkR
        have HX0 : Hid (HasTs n lo w (.slice A2 x.args.length ca2) x.args ∧ HasTs n lo' w (.slice B2 y.args.length cb2) y.args) := Lib.hid ⟨hha.up (by omega), hhb.up (by omega)⟩
        obtain ⟨na2, hna2⟩ : ∃ z, z = x.args.length := ⟨_, rfl⟩
        obtain ⟨nb2, hnb2⟩ : ∃ z, z = y.args.length := ⟨_, rfl⟩
        rw [← hna2] at c3 HX0
        rw [← hnb2] at e3 HX0
        have HSX : Hid (sizes (x :: ta) = 1 + sizes x.args + sizes ta) := Lib.hid (by
          have : size x = 1 + sizes x.args := by cases x; exact size_mk _ _ _ _
          simp only [sizes, List.map_cons, List.sum_cons] at this ⊢
          omega)
        have hga2 : ga < wr.heap.size := Nat.lt_of_lt_of_le hga hgb.below.size
        have hgb2 : gb < wr.heap.size := Nat.lt_of_lt_of_le hgbl hgb.below.size
        have p0 := (hgb.below.cell (p := ⟨ga, oa, none⟩) hga).trans c0
        have p1 := (hgb.below.cell (p := ⟨ga, oa + 1, none⟩) hga).trans c1
        have p2 := (hgb.below.cell (p := ⟨ga, oa + 2, none⟩) hga).trans c2
        have q0 := (hgb.below.cell (p := ⟨gb, ob, none⟩) hgbl).trans e0
        have q1 := (hgb.below.cell (p := ⟨gb, ob + 1, none⟩) hgbl).trans e1
        have q2 := (hgb.below.cell (p := ⟨gb, ob + 2, none⟩) hgbl).trans e2
        have HND := Lib.hid (fun W (hW : GB wr.heap.size wr W) => nodes_any x y ga oa gb ob W (Nat.lt_of_lt_of_le hga2 hW.below.size) (Nat.lt_of_lt_of_le hgb2 hW.below.size)
          ((hW.below.cell (p := ⟨ga, oa, none⟩) hga2).trans p0) ((hW.below.cell (p := ⟨ga, oa + 1, none⟩) hga2).trans p1) ((hW.below.cell (p := ⟨ga, oa + 2, none⟩) hga2).trans p2)
          ((hW.below.cell (p := ⟨gb, ob, none⟩) hgb2).trans q0) ((hW.below.cell (p := ⟨gb, ob + 1, none⟩) hgb2).trans q1) ((hW.below.cell (p := ⟨gb, ob + 2, none⟩) hgb2).trans q2))
        obtain ⟨r, hr⟩ : ∃ r, r = cmpN x y := ⟨_, rfl⟩
        rw [← hr] at HND
        have HRR := Lib.hid hr
        clear c0 c1 c2 e0 e1 e2 p0 p1 p2 q0 q1 q2 hna hnb ht1 ht2 hkR hha hhb hna2 hnb2 hr hka hkb hwt
        go_wp2
        go_quiet (fail)
        go_wp2_with fail
        refine (HND.out _ (by first | exact (GB.refl _ _).drewN _ | exact (GB.refl _ _).drew)).mono ?_
        rintro e w2 ⟨rfl, hb2⟩
        have hgb3 : GB w.heap.size w w2 := (by first | exact hgb.drewN _ | exact hgb.drew : GB w.heap.size w _).trans (hb2.mono hgb.below.size)
        have HOW2 := Lib.hid (own_below HOWN.out ((below_drewN (Below.refl _ _) _).trans hb2.below))
        have hgw2 : g < w2.heap.size := Nat.lt_of_lt_of_le hgw hb2.below.size
        clear hb2 HND
        by_cases hr0 : r = 0
        · subst hr0
          have HDN : Hid (cmpN x y = 0) := Lib.hid HRR.out.symm
          by_cases h1 : 1 < na
          · have hf1 : decide (1 < na) = true := decide_eq_true h1
            have hf2 : decide ((1 : Int) < (na : Int)) = true := decide_eq_true (by omega)
            have p3 := (hgb3.below.cell (p := ⟨ga, oa + 3, none⟩) hga).trans c3
            have q3 := (hgb3.below.cell (p := ⟨gb, ob + 3, none⟩) hgbl).trans e3
            clear c3 e3
            go_wp2_with fail
            go_region_law (refine step_append_d (by rfl) _ _ _ (by rfl) w.heap.size 75 j0 _ 2 48 Try.underlying73 hij hy0 hy1 hy2 rfl (by omega) g k cap (flat R) (by rfl) (own_below HOW2.out ((Below.refl _ _).drew.alloc (by simp) _)) ⟨_, 0, none⟩ 1 1 [.slice A4 (na - 1) c4, .slice B4 (nb - 1) d4] (by rfl) (by rfl) (two_cells _ _ _ _) (two_one rfl rfl) (by unfold maxLen; omega) (by omega) (by have := hgb3.below.size; simp; omega) ?_; intro g' cap' w4 hown4 hgr4 hg4 hlt4 hdr4)
            all_goals
              have hgb4 : GB w.heap.size w w4 := GB.grown ((hgb3.drew).alloc (by have := hgb3.below.size; simp; omega) _) hgr4 hdr4 (by have := hgb3.below.size; simp; omega) hgl
              have hg2 : w.heap.size ≤ g' := by
                have := hgb3.below.size
                rcases hg4 with h | h
                · omega
                · rw [h]; simp; omega
              have HO1 := Lib.hid hown4
              have p4 : w4.cell? ⟨ga, oa + 3, none⟩ = some (.slice A2 na2 ca2) := (hgb4.below.cell (p := ⟨ga, oa + 3, none⟩) hga).trans ((hgb3.below.cell (p := ⟨ga, oa + 3, none⟩) hga).symm.trans p3)
              have q4 : w4.cell? ⟨gb, ob + 3, none⟩ = some (.slice B2 nb2 cb2) := (hgb4.below.cell (p := ⟨gb, ob + 3, none⟩) hgbl).trans ((hgb3.below.cell (p := ⟨gb, ob + 3, none⟩) hgbl).symm.trans q3)
              clear hgr4 hdr4 hown4 hg4 p3 q3
              go_wp2
              go_quiet (fail)
              go_wp2
              go_roundg (2 * sizes x.args + wtS ((.slice A4 (na - 1) c4, .slice B4 (nb - 1) d4, ta, tb) :: R))
              case measure => have h5 := HWT.out; have h6 := HSX.out; simp only [wtS]; omega
              case rel =>
                refine ⟨A2, na2, ca2, B2, nb2, cb2, x.args, y.args, (.slice A4 (na - 1) c4, .slice B4 (nb - 1) d4, ta, tb) :: R, g', k + 1, cap', rfl, rfl, rfl, Lib.hid ⟨HX0.out.1, HX0.out.2, ?_⟩, Lib.hid ?_, ?_, hg2, ⟨Nat.le_refl _, ?_⟩, own_below HO1.out (below_drewN (Below.refl _ _) _), by first | exact hgb4.drewN _ | exact hgb4.drew | exact hgb4⟩
                · intro p hp
                  rcases List.mem_cons.1 hp with rfl | hp
                  · exact ⟨HT1.out, HT2.out⟩
                  · exact HI.out.2.2 p hp
                · rw [← HE.out]
                  exact (cmpS_down x y ta tb _ _ R HDN.out _ _ _ _).symm
                · rw [List.length_cons, ← HKR.out]
                · have h5 := HWT.out; have h6 := HSX.out; simp only [wtS]; omega
          · have hf1 : decide (1 < na) = false := decide_eq_false h1
            have hf2 : decide ((1 : Int) < (na : Int)) = false := decide_eq_false (by omega)
            by_cases h2 : 1 < nb
            · have hf3 : decide (1 < nb) = true := decide_eq_true h2
              have hf4 : decide ((1 : Int) < (nb : Int)) = true := decide_eq_true (by omega)
              have p3 := (hgb3.below.cell (p := ⟨ga, oa + 3, none⟩) hga).trans c3
              have q3 := (hgb3.below.cell (p := ⟨gb, ob + 3, none⟩) hgbl).trans e3
              clear c3 e3
              go_wp2_with fail
              go_region_law (refine step_append_d (by rfl) _ _ _ (by rfl) w.heap.size 75 j0 _ 2 48 Try.underlying73 hij hy0 hy1 hy2 rfl (by omega) g k cap (flat R) (by rfl) (own_below HOW2.out ((Below.refl _ _).drew.alloc (by simp) _)) ⟨_, 0, none⟩ 1 1 [.slice A4 (na - 1) c4, .slice B4 (nb - 1) d4] (by rfl) (by rfl) (two_cells _ _ _ _) (two_one rfl rfl) (by unfold maxLen; omega) (by omega) (by have := hgb3.below.size; simp; omega) ?_; intro g' cap' w4 hown4 hgr4 hg4 hlt4 hdr4)
              all_goals
                have hgb4 : GB w.heap.size w w4 := GB.grown ((hgb3.drew).alloc (by have := hgb3.below.size; simp; omega) _) hgr4 hdr4 (by have := hgb3.below.size; simp; omega) hgl
                have hg2 : w.heap.size ≤ g' := by
                  have := hgb3.below.size
                  rcases hg4 with h | h
                  · omega
                  · rw [h]; simp; omega
                have HO1 := Lib.hid hown4
                have p4 : w4.cell? ⟨ga, oa + 3, none⟩ = some (.slice A2 na2 ca2) := (hgb4.below.cell (p := ⟨ga, oa + 3, none⟩) hga).trans ((hgb3.below.cell (p := ⟨ga, oa + 3, none⟩) hga).symm.trans p3)
                have q4 : w4.cell? ⟨gb, ob + 3, none⟩ = some (.slice B2 nb2 cb2) := (hgb4.below.cell (p := ⟨gb, ob + 3, none⟩) hgbl).trans ((hgb3.below.cell (p := ⟨gb, ob + 3, none⟩) hgbl).symm.trans q3)
                clear hgr4 hdr4 hown4 hg4 p3 q3
                go_wp2
                go_quiet (fail)
                go_wp2
                go_roundg (2 * sizes x.args + wtS ((.slice A4 (na - 1) c4, .slice B4 (nb - 1) d4, ta, tb) :: R))
                case measure => have h5 := HWT.out; have h6 := HSX.out; simp only [wtS]; omega
                case rel =>
                  refine ⟨A2, na2, ca2, B2, nb2, cb2, x.args, y.args, (.slice A4 (na - 1) c4, .slice B4 (nb - 1) d4, ta, tb) :: R, g', k + 1, cap', rfl, rfl, rfl, Lib.hid ⟨HX0.out.1, HX0.out.2, ?_⟩, Lib.hid ?_, ?_, hg2, ⟨Nat.le_refl _, ?_⟩, own_below HO1.out (below_drewN (Below.refl _ _) _), by first | exact hgb4.drewN _ | exact hgb4.drew | exact hgb4⟩
                  · intro p hp
                    rcases List.mem_cons.1 hp with rfl | hp
                    · exact ⟨HT1.out, HT2.out⟩
                    · exact HI.out.2.2 p hp
                  · rw [← HE.out]
                    exact (cmpS_down x y ta tb _ _ R HDN.out _ _ _ _).symm
                  · rw [List.length_cons, ← HKR.out]
                  · have h5 := HWT.out; have h6 := HSX.out; simp only [wtS]; omega
            · have hf3 : decide (1 < nb) = false := decide_eq_false h2
              have hf4 : decide ((1 : Int) < (nb : Int)) = false := decide_eq_false (by omega)
              have hta : ta = [] := List.eq_nil_of_length_eq_zero (by have := HN.out.1; omega)
              have htb : tb = [] := List.eq_nil_of_length_eq_zero (by have := HN.out.2; omega)
              have p3 := (hgb3.below.cell (p := ⟨ga, oa + 3, none⟩) hga).trans c3
              have q3 := (hgb3.below.cell (p := ⟨gb, ob + 3, none⟩) hgbl).trans e3
              clear c3 e3
              go_wp2
              go_quiet (fail)
              go_wp2
              go_roundg (2 * sizes x.args + wtS R)
              case measure => have h5 := HWT.out; have h6 := HSX.out; omega
              case rel =>
                refine ⟨A2, na2, ca2, B2, nb2, cb2, x.args, y.args, R, g, k, cap, rfl, rfl, rfl, Lib.hid ⟨HX0.out.1, HX0.out.2, HI.out.2.2⟩, Lib.hid ?_, HKR.out, hgl, ⟨Nat.le_refl _, ?_⟩, own_below HOW2.out (below_drewN (Below.refl _ _) _), by first | exact hgb3.drewN _ | exact hgb3.drew | exact hgb3⟩
                · rw [← HE.out, cmpS_down x y ta tb _ _ R HDN.out (.slice A2 na2 ca2) (.slice B2 nb2 cb2) undef undef, hta, htb]
                  rfl
                · have h5 := HWT.out; have h6 := HSX.out; omega
        · have HR : Hid (cmpL L M = r) := Lib.hid (by
            have h := HRR.out
            rw [← HE.out]
            simp only [cmpS]
            rw [cmpL_cons, cmp_node x y, ← h, if_pos hr0, if_pos hr0, if_pos hr0])
          go_wp2
          go_ret
          exact ⟨ret_int HR.out.symm, hgb3⟩
/-- a term by value -/
abbrev aggT (t : TermM) (v : Value) : Value := .agg #[.int .i64 t.op, .string (bstr t.name), .int .i64 t.sort, v]
set_option maxRecDepth 20000 in
set_option maxHeartbeats 2000000 in
/-- impl.CompareTerms -/
theorem compare_any {n : Nat} (t u : TermM) (va vb : Value) (w : World) {lo lo' : Nat} (ha : HasTs n lo w va t.args) (hb : HasTs n lo' w vb u.args) (hsz : sizes t.args ≤ 2097152) :
    Calls Try.prog 56 #[aggT t va, aggT u vb] w fun e w' => e = .returned (.int .i64 (cmp t u)) ∧ GB w.heap.size w w' := by
  obtain ⟨A, ca, rfl, _⟩ := HasR.shape ha rfl
  obtain ⟨B, cb, rfl, _⟩ := HasR.shape hb rfl
  have HL := Lib.hid (fun W (hW : GB w.heap.size w W) => lists_any t.args u.args _ _ W (ha.below (Nat.le_refl _) hW.below) (hb.below (Nat.le_refl _) hW.below) hsz)
  have HN := Lib.hid (fun W => nodes_any t u w.heap.size 0 (w.heap.size + 1) 0 W)
  obtain ⟨r, hr⟩ : ∃ r, r = cmpN t u := ⟨_, rfl⟩
  obtain ⟨z, hz⟩ : ∃ z, z = cmpL t.args u.args := ⟨_, rfl⟩
  have HC : Hid (cmp t u = if r ≠ 0 then r else z) := Lib.hid (by rw [hr, hz]; exact cmp_node t u)
  obtain ⟨c, hc⟩ : ∃ c, c = cmp t u := ⟨_, rfl⟩
  rw [← hc] at HC ⊢
  rw [← hr] at HN
  rw [← hz] at HL
  unfold aggT
  obtain ⟨k, hk⟩ : ∃ k, k = t.args.length := ⟨_, rfl⟩
  obtain ⟨m, hm⟩ : ∃ m, m = u.args.length := ⟨_, rfl⟩
  rw [← hk] at HL ⊢
  rw [← hm] at HL ⊢
  obtain ⟨to, hto⟩ : ∃ q, q = t.op := ⟨_, rfl⟩
  obtain ⟨tn, htn⟩ : ∃ q, q = t.name := ⟨_, rfl⟩
  obtain ⟨ts, hts⟩ : ∃ q, q = t.sort := ⟨_, rfl⟩
  obtain ⟨uo, huo⟩ : ∃ q, q = u.op := ⟨_, rfl⟩
  obtain ⟨un, hun⟩ : ∃ q, q = u.name := ⟨_, rfl⟩
  obtain ⟨us, hus⟩ : ∃ q, q = u.sort := ⟨_, rfl⟩
  rw [← hto, ← htn, ← hts, ← huo, ← hun, ← hus] at HN ⊢
  clear ha hb hsz hr hz hc hk hm hto htn hts huo hun hus
  go_enter Try.func56, Try.ntmps56
  go_wp2_with fail
  refine (HN.out _ (by simp; omega) (by simp) (by simp) (by simp) (by simp) (by simp) (by simp) (by simp)).mono ?_
  rintro e w1 ⟨rfl, hb1⟩
  have hgb : GB w.heap.size w w1 := ((((GB.refl _ _).alloc (Nat.le_refl _) _).alloc (by simp) _)).trans (hb1.mono (by simp; omega))
  have d1 : w1.cell? ⟨w.heap.size, 3, none⟩ = some (.slice A k ca) := by rw [hb1.below.cell (p := ⟨w.heap.size, 3, none⟩) (by simp; omega)]; simp
  have d2 : w1.cell? ⟨w.heap.size + 1, 3, none⟩ = some (.slice B m cb) := by rw [hb1.below.cell (p := ⟨w.heap.size + 1, 3, none⟩) (by simp)]; simp
  clear hb1
  by_cases h0 : r = 0
  · subst h0
    have HE : Hid (c = z) := Lib.hid (by rw [HC.out]; simp)
    go_wp2_with fail
    refine (HL.out _ hgb).mono ?_
    rintro e w2 ⟨rfl, hb2⟩
    have hgb2 := hgb.trans (hb2.mono hgb.below.size)
    clear hb2
    go_wp2
    go_ret
    exact ⟨ret_int HE.out.symm, hgb2⟩
  · have HE : Hid (c = r) := Lib.hid (by rw [HC.out, if_pos h0])
    go_wp2
    go_ret
    exact ⟨ret_int HE.out.symm, hgb⟩
end Go.Proofs.Ytiilamngcoegiaa.termx
