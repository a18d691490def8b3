/-
  Termx, Gramo, Tsj, Tsk, Tsl, Termz, Termro, Frm, Formlf, Termvo, merged.
-/
import Derived.Test.YtkkmjaggebjcbaaGreatTermw
import Derived.Deep.RegionLaw
import Derived.Test.YtkkmjaggebjcbaaGreatPk07
import Derived.Test.YtkkmjaggebjcbaaGreatPk04
import Derived.Deep.RegionHeld3
import Derived.Test.YtkkmjaggebjcbaaGreatPk01
/-
 CONTRACTS OF THE PROGRAM'S COMPARISON OF TERMS: compareLists, CompareTerms, areEqualTerms.
-/
namespace Go.Proofs.YtkkmjaggebjcbaaGreat.termx
open Go.ChangeShapes Go.WideShapes Go.ChangeAt Go.RowKit
open mem dec rowl trm trmv terml termb termt termw

/-- what is still to compare, the newest first: values and terms -/
abbrev Stk := List (Value × Value × List TermM × List TermM)
noncomputable def cmpS : Stk → Int
 | [] => 0
 | p :: R => if cmpL p.2.2.1 p.2.2.2 ≠ 0 then cmpL p.2.2.1 p.2.2.2 else cmpS R
noncomputable def wtS : Stk → Nat
 | [] => 0
 | p :: R => 2 * sizes p.2.2.1 + 1 + wtS R
def flat : Stk → List Value
 | [] => []
 | p :: R => flat R ++ [p.1, p.2.1]
theorem flat_len : ∀ R : Stk, (flat R).length = R.length * 2
 | [] => rfl
 | p :: R => by simp [flat, flat_len R]; omega
theorem wtS_len : ∀ R : Stk, R.length ≤ wtS R
 | [] => Nat.le_refl _
 | p :: R => by have := wtS_len R; simp only [wtS, List.length_cons]; omega
theorem cmpL_cons (a b : TermM) (l m : List TermM) : cmpL (a :: l) (b :: m) = if cmp a b ≠ 0 then cmp a b else cmpL l m := rfl
/-- one step down -/
theorem cmpS_down (a b : TermM) (l m : List TermM) (va vb : Value) (R : Stk) (h : cmpN a b = 0) (u v u' v' : Value) :
  cmpS ((va, vb, a :: l, b :: m) :: R) = cmpS ((u, v, a.args, b.args) :: (u', v', l, m) :: R) := by
 have hx : cmpL (a :: l) (b :: m) = if cmpL a.args b.args ≠ 0 then cmpL a.args b.args else cmpL l m := by
  rw [cmpL_cons, cmp_node a b, if_neg (by simp [h] : ¬ cmpN a b ≠ 0)]
 have e1 : cmpS ((va, vb, a :: l, b :: m) :: R) = if cmpL (a :: l) (b :: m) ≠ 0 then cmpL (a :: l) (b :: m) else cmpS R := rfl
 have e2 : cmpS ((u, v, a.args, b.args) :: (u', v', l, m) :: R) = if cmpL a.args b.args ≠ 0 then cmpL a.args b.args else if cmpL l m ≠ 0 then cmpL l m else cmpS R := rfl
 rw [e1, e2, hx]
 by_cases h1 : cmpL a.args b.args = 0
 ·simp [h1]
 ·simp [h1]
theorem info_pair : (Tryz.prog.info? 215).map (fun i => (i.zero, i.size, i.bytes)) = some (some (.agg #[.slice none 0 0, .slice none 0 0]), 2, 48) := by kernel_rfl
theorem two_cells (w : World) (u v : Value) (t : TypeId) : ∀ (j : Nat) (x : Value), [u, v][j]? = some x → (w.alloc (.cells #[u, v] t)).cell? ((⟨w.heap.size, 0, none⟩ : Addr).add j) = some x := by
 intro j x hj
 match j, hj with
 | 0, hj => simp at hj; subst hj; simp [Addr.add]
 | 1, hj => simp at hj; subst hj; simp [Addr.add]
theorem two_one {u v : Value} (h : u.oneCell' = true) (h' : v.oneCell' = true) : ∀ x ∈ [u, v], x.oneCell' = true := by
 intro x hx
 simp at hx
 rcases hx with rfl | rfl
 ·exact h
 ·exact h'
/-- a[1:] of a row of terms -/
theorem tail_run {n lo m c : Nat} {w : World} {A : Option Addr} {x : TermM} {L : List TermM} (h : HasTs n lo w (.slice A m c) (x :: L)) :
  ∃ A4 c4, (∀ W, (Instr.sliceAt 32 (.slice A m c) (some (.int .i64 1)) none none).run Tryz.prog W = .ok (.slice A4 (m - 1) c4) W) ∧ HasTs n lo w (.slice A4 (m - 1) c4) L := by
 have hel : Tryz.prog.elem 32 = 34 := by kernel_rfl
 have hsl : Tryz.prog.underlying 32 = some (.slice (Tryz.prog.elem 32)) := by rw [hel]; exact Tryz.underlying32
 obtain ⟨i0, hi, hz0, hz1, hz2⟩ := info_parts info_term
 have hcs : Tryz.prog.cellsOf 34 = 4 := by kernel_rfl
 obtain ⟨hm, hm2, hmc⟩ := h.len
 rw [List.length_cons] at hm
 obtain ⟨g, o, cs, rfl, _⟩ := h.get (j := 0) (by omega)
 have hrun : ∀ W, (Instr.sliceAt 32 (.slice (some ⟨g, o, none⟩) m c) (some (.int .i64 1)) none none).run Tryz.prog W = .ok (sliced (some ⟨g, o, none⟩) 1 m c 4) W := fun W => by
  rw [run_sliceAt_slice W _ _ _ _ _ hsl, run_slice_l W _ _ _ _ hsl .i64 1 (by omega) (by omega), hel, run_sizeOf W hi, hcs]
  rfl
 by_cases h1 : c = 1
 ·have hn1 : m = 1 := by omega
  refine ⟨some ⟨g, o, none⟩, c - 1, fun W => ?_, ?_⟩
  ·rw [hrun W, sliced, if_pos h1]
  ·have : L = [] := List.eq_nil_of_length_eq_zero (by omega)
   rw [this, hn1, h1]
   exact HasR.nil _ _ _ (by unfold maxLen; omega) _
 ·refine ⟨some ⟨g, o + 4, none⟩, c - 1, fun W => ?_, HasR.tail h (by omega : 1 ≤ m)⟩
  rw [hrun W, sliced, if_neg h1]
  simp [Addr.add]
theorem flat_top {R : Stk} {p : Value × Value × List TermM × List TermM} {k : Nat} (hk : k = R.length) : (flat (p :: R))[k * 2]? = some p.1 ∧ (flat (p :: R))[k * 2 + 1]? = some p.2.1 := by
 have h := flat_len R
 rw [flat, hk]
 refine ⟨?_, ?_⟩
 ·rw [List.getElem?_append_right (by omega), h, Nat.sub_self]; rfl
 ·rw [List.getElem?_append_right (by omega), h, Nat.add_sub_cancel_left]; rfl
theorem flat_pop {R : Stk} {p : Value × Value × List TermM × List TermM} {k : Nat} (hk : k = R.length) : (flat (p :: R)).take (k * 2) = flat R := by
 have h := flat_len R
 rw [flat, hk, List.take_append_of_le_length (by omega), List.take_of_length_le (by omega)]
set_option maxRecDepth 50000 in
set_option maxHeartbeats 8000000 in
theorem lists_any {n : Nat} (L M : List TermM) (va vb : Value) (w : World) {lo lo' : Nat} (ha : HasTs n lo w va L) (hb : HasTs n lo' w vb M) (hsz : sizes L ≤ 2097152) :
  Calls Tryz.prog 144 #[va, vb] w fun e w' => e = .returned (.int .i64 (cmpL L M)) ∧ GB w.heap.size w w' := by
 obtain ⟨A, ca, rfl, ha⟩ := HasR.shape ha rfl
 obtain ⟨B, cb, rfl, hb⟩ := HasR.shape hb rfl
 have HA := Lib.hid ha
 have HB := Lib.hid hb
 obtain ⟨j0, hij, hy0, hy1, hy2⟩ := info_parts info_pair
 obtain ⟨O, hmk, hown0⟩ : ∃ O, (∀ W, (Instr.makeSlice 213 (.int .i64 0) (.int .i64 20)).run Tryz.prog W = .ok (.slice (some ⟨W.heap.size, 0, none⟩) 0 20) (W.alloc O)) ∧ ∀ W : World, (W.alloc O).ownsRow W.heap.size 215 2 (.slice (some ⟨W.heap.size, 0, none⟩) 0 20) 0 [] := by
  refine ⟨.cells (madeCells (Value.agg #[.slice none 0 0, .slice none 0 0]).cells ((20 : Int).toNat * j0.size)) 215, fun W => ?_, fun W => ?_⟩
  ·exact run_make W _ _ _ _ Tryz.underlying213 hij hy0 .i64 .i64 0 20 (by omega) (by omega) (by rw [hy2]; omega) (by omega)
  ·exact World.ownsRow_made W _ 20 (Nat.le_refl _) (by unfold maxLen; omega) (by rw [size_madeCells, hy1]; rfl)
 have HOW := Lib.hid (hown0 w)
 obtain ⟨NL, hNL⟩ : ∃ z, z = L.length := ⟨_, rfl⟩
 obtain ⟨NM, hNM⟩ : ∃ z, z = M.length := ⟨_, rfl⟩
 rw [← hNL] at HA ⊢
 rw [← hNM] at HB ⊢
 clear ha hb hown0 hNL hNM
 go_enter Tryz.func144, Tryz.ntmps144
 go_wp2_with fail
 have hgb0 : GB w.heap.size w (w.alloc O) := (GB.refl _ _).alloc (Nat.le_refl _) _
 have HW0 : Hid (w.heap.size < (w.alloc O).heap.size) := Lib.hid (by simp)
 generalize w.alloc O = W0 at hgb0 HOW HW0 ⊢
 go_loopg [0, 1, 5] (2 * sizes L) (fun gk v0 v1 v5 wr => ∃ (A : Option Addr) (na ca : Nat) (B : Option Addr) (nb cb : Nat) (la lb : List TermM) (R : Stk) (g k cap : Nat), v0 = .slice A na ca ∧ v1 = .slice B nb cb ∧ v5 = .slice (some ⟨g, 0, none⟩) k cap ∧
   Hid (HasTs n lo w (.slice A na ca) la ∧ HasTs n lo' w (.slice B nb cb) lb ∧ ∀ p ∈ R, HasTs n lo w p.1 p.2.2.1 ∧ HasTs n lo' w p.2.1 p.2.2.2) ∧ Hid (cmpS ((v0, v1, la, lb) :: R) = cmpL L M) ∧ k = R.length ∧ w.heap.size ≤ g ∧ (2 * sizes la + wtS R ≤ gk ∧ gk ≤ 4194304) ∧
   wr.ownsRow w.heap.size 215 2 (.slice (some ⟨g, 0, none⟩) k cap) k (flat R) ∧ GB w.heap.size w wr)
 case atStart =>
  refine ⟨A, NL, ca, B, NM, cb, L, M, [], w.heap.size, 0, 20, rfl, rfl, rfl, Lib.hid ⟨HA.out, HB.out, fun p hp => by simp at hp⟩, Lib.hid ?_, rfl, Nat.le_refl _, ⟨by simp [wtS], by omega⟩, HOW.out, hgb0⟩
  simp only [cmpS]
  by_cases h : cmpL L M = 0 <;> simp [h]
 case round =>
  obtain ⟨A, na, ca, B, nb, cb, la, lb, R, g, k, cap, rfl, rfl, rfl, HI, HE, hkR, hgl, ⟨hwt, hgk⟩, hown, hgb⟩ := hrel
  have HWT := Lib.hid hwt
  have HOWN := Lib.hid hown
  have hgw : g < wr.heap.size := by
   rcases hown.2 with ⟨hv, _⟩ | ⟨g', cap', cur, hv, hb, hg, _⟩
   ·cases hv
   ·simp only [Value.slice.injEq, Option.some.injEq, Addr.mk.injEq, and_true, true_and] at hv
    obtain ⟨rfl, rfl⟩ := hv
    exact (Array.getElem?_eq_some_iff.1 hg).1
  have hkk : k ≤ 4194304 := by have h1 := wtS_len R; omega
  have hkc : k ≤ cap := by obtain ⟨_, _, e, h⟩ := own_slice hown; cases e; exact h
  clear hown
  cases la with
  | nil =>
   obtain rfl : na = 0 := HI.out.1.len.1
   cases lb with
   | nil =>
    obtain rfl : nb = 0 := HI.out.2.1.len.1
    have hcmp : cmpI 0 0 = 0 := by decide
    cases R with
    | nil =>
     obtain rfl : k = 0 := hkR
     have HR : Hid (cmpL L M = 0) := Lib.hid (by rw [← HE.out]; rfl)
     go_wp2_with fail
     refine (comp_int 0 0 _).mono ?_
     rintro e w' ⟨rfl, rfl⟩
     rw [hcmp]
     go_wp2
     go_ret
     exact ⟨ret_int HR.out.symm, hgb⟩
    | cons p R =>
     obtain ⟨k', rfl⟩ : ∃ k', k = k' + 1 := ⟨R.length, by rw [hkR]; rfl⟩
     have hk2 : k' = R.length := by simpa using hkR
     obtain ⟨v1, v2, l1, m1⟩ := p
     have hp1 : HasTs n lo w v1 l1 := (HI.out.2.2 _ (List.mem_cons_self)).1
     have hp2 : HasTs n lo' w v2 m1 := (HI.out.2.2 _ (List.mem_cons_self)).2
     obtain ⟨A3, c3, rfl, hp1⟩ := HasR.shape hp1 rfl
     obtain ⟨B3, d3, rfl, hp2⟩ := HasR.shape hp2 rfl
     obtain ⟨ft1, ft2⟩ := flat_top (p := (.slice A3 l1.length c3, .slice B3 m1.length d3, l1, m1)) hk2
     have s1 := (HOWN.out.cellAt (k' * 2) (by omega)).trans ft1
     have s2 := (HOWN.out.cellAt (k' * 2 + 1) (by omega)).trans ft2
     have HPO : Hid (wr.ownsRow w.heap.size 215 2 (.slice (some ⟨g, 0, none⟩) k' cap) k' (flat R)) := Lib.hid (by
      have h := own_take HOWN.out (m := k') (by omega)
      rwa [flat_pop hk2] at h)
     have HP := Lib.hid (And.intro hp1 hp2)
     have HT : Hid (∀ p ∈ R, HasTs n lo w p.1 p.2.2.1 ∧ HasTs n lo' w p.2.1 p.2.2.2) := Lib.hid (fun p hp => HI.out.2.2 p (List.mem_cons_of_mem _ hp))
     have HE2 : Hid (cmpS ((.slice A3 l1.length c3, .slice B3 m1.length d3, l1, m1) :: R) = cmpL L M) := Lib.hid (by rw [← HE.out]; rfl)
     obtain ⟨n1, hn1⟩ : ∃ z, z = l1.length := ⟨_, rfl⟩
     obtain ⟨m2, hm2⟩ : ∃ z, z = m1.length := ⟨_, rfl⟩
     rw [← hn1] at s1 HP HE2
     rw [← hm2] at s2 HP HE2
     have hkc2 : k' + 1 ≤ cap := hkc
     have HK2 := Lib.hid hk2
     clear hp1 hp2 ft1 ft2 hn1 hm2 hwt hk2 hkR
     go_wp2_with fail
     refine (comp_int 0 0 _).mono ?_
     rintro e w' ⟨rfl, rfl⟩
     rw [hcmp]
     go_wp2
     go_quiet (fail)
     go_wp2
     go_roundg (2 * sizes l1 + wtS R)
     case measure => have := HWT.out; simp only [wtS] at this; omega
     case rel =>
      refine ⟨A3, n1, c3, B3, m2, d3, l1, m1, R, g, k', cap, rfl, rfl, ?_, Lib.hid ⟨HP.out.1, HP.out.2, HT.out⟩, HE2, HK2.out, hgl, ⟨Nat.le_refl _, ?_⟩, ?_, ?_⟩
      ·first | rfl | go_num
      ·have := HWT.out; simp only [wtS] at this; omega
      ·exact own_below HPO.out (below_drewN (Below.refl _ _) _)
      ·exact hgb.drewN _
   | cons y tb =>
    have hnb := HI.out.2.1.len.1
    rw [List.length_cons] at hnb
    have hcmp : cmpI 0 (nb : Int) = -1 := by unfold cmpI; rw [if_neg (by omega), if_pos (by omega)]
    have HR : Hid (cmpL L M = -1) := Lib.hid (by rw [← HE.out]; simp only [cmpS]; rw [if_pos (by simp [cmpL])]; rfl)
    have hnb0 : ¬ nb = 0 := by omega
    have hnbm := HI.out.2.1.len.2.1
    clear hnb
    go_wp2_with fail
    refine (comp_int 0 nb _).mono ?_
    rintro e w' ⟨rfl, rfl⟩
    rw [hcmp]
    go_wp2
    go_ret
    exact ⟨ret_int HR.out.symm, hgb⟩
  | cons x ta =>
   have hna := HI.out.1.len.1
   rw [List.length_cons] at hna
   have hna0 : ¬ na = 0 := by omega
   have hnam := HI.out.1.len.2.1
   cases lb with
   | nil =>
    obtain rfl : nb = 0 := HI.out.2.1.len.1
    have hcmp : cmpI (na : Int) 0 = 1 := by unfold cmpI; rw [if_neg (by omega), if_neg (by omega)]
    have HR : Hid (cmpL L M = 1) := Lib.hid (by rw [← HE.out]; simp only [cmpS]; rw [if_pos (by simp [cmpL])]; rfl)
    clear hna
    go_wp2_with fail
    refine (comp_int na 0 _).mono ?_
    rintro e w' ⟨rfl, rfl⟩
    rw [hcmp]
    go_wp2
    go_ret
    exact ⟨ret_int HR.out.symm, hgb⟩
   | cons y tb =>
    have hnb := HI.out.2.1.len.1
    rw [List.length_cons] at hnb
    have hnb0 : ¬ nb = 0 := by omega
    have hnbm := HI.out.2.1.len.2.1
    obtain ⟨ka, ga, oa, A2, ca2, hka, rfl, _, hga, c0, c1, c2, c3, hha, _⟩ := term_at HI.out.1 (j := 0) (by omega)
    obtain ⟨kb, gb, ob, B2, cb2, hkb, rfl, _, hgbl, e0, e1, e2, e3, hhb, _⟩ := term_at HI.out.2.1 (j := 0) (by omega)
    obtain ⟨A4, c4, ht0, ht1⟩ := tail_run HI.out.1
    obtain ⟨B4, d4, ht00, ht2⟩ := tail_run HI.out.2.1
    have eA : (x :: ta).getD 0 default = x := rfl
    have eB : (y :: tb).getD 0 default = y := rfl
    rw [eA] at c0 c1 c2 c3 hha
    rw [eB] at e0 e1 e2 e3 hhb
    simp only [Nat.zero_mul, Nat.add_zero] at c0 c1 c2 c3 e0 e1 e2 e3
    have HN := Lib.hid (And.intro hna hnb)
    have hd1 : decide (na = 0) = false := decide_eq_false hna0
    have hd2 : decide (nb = 0) = false := decide_eq_false hnb0
    have hd3 : decide ((na : Int) = 0) = false := decide_eq_false (by omega)
    have hd4 : decide ((nb : Int) = 0) = false := decide_eq_false (by omega)
    have hd5 : ((na : Int) == 0) = false := beq_eq_false_iff_ne.2 (by omega)
    have hd6 : ((nb : Int) == 0) = false := beq_eq_false_iff_ne.2 (by omega)
    have HT1 := Lib.hid ht1
    have HT2 := Lib.hid ht2
    have HKR := Lib.hid hkR
    have HX0 : Hid (HasTs n lo w (.slice A2 x.args.length ca2) x.args ∧ HasTs n lo' w (.slice B2 y.args.length cb2) y.args) := Lib.hid ⟨hha.up (by omega), hhb.up (by omega)⟩
    obtain ⟨na2, hna2⟩ : ∃ z, z = x.args.length := ⟨_, rfl⟩
    obtain ⟨nb2, hnb2⟩ : ∃ z, z = y.args.length := ⟨_, rfl⟩
    rw [← hna2] at c3 HX0
    rw [← hnb2] at e3 HX0
    have HSX : Hid (sizes (x :: ta) = 1 + sizes x.args + sizes ta) := Lib.hid (by
     have : size x = 1 + sizes x.args := by cases x; exact size_mk _ _ _ _
     simp only [sizes, List.map_cons, List.sum_cons] at this ⊢
     omega)
    have hga2 : ga < wr.heap.size := Nat.lt_of_lt_of_le hga hgb.below.size
    have hgb2 : gb < wr.heap.size := Nat.lt_of_lt_of_le hgbl hgb.below.size
    have p0 := (hgb.below.cell (p := ⟨ga, oa, none⟩) hga).trans c0
    have p1 := (hgb.below.cell (p := ⟨ga, oa + 1, none⟩) hga).trans c1
    have p2 := (hgb.below.cell (p := ⟨ga, oa + 2, none⟩) hga).trans c2
    have q0 := (hgb.below.cell (p := ⟨gb, ob, none⟩) hgbl).trans e0
    have q1 := (hgb.below.cell (p := ⟨gb, ob + 1, none⟩) hgbl).trans e1
    have q2 := (hgb.below.cell (p := ⟨gb, ob + 2, none⟩) hgbl).trans e2
    have HND := Lib.hid (fun W (hW : GB wr.heap.size wr W) => nodes_any x y ga oa gb ob W (Nat.lt_of_lt_of_le hga2 hW.below.size) (Nat.lt_of_lt_of_le hgb2 hW.below.size)
     ((hW.below.cell (p := ⟨ga, oa, none⟩) hga2).trans p0) ((hW.below.cell (p := ⟨ga, oa + 1, none⟩) hga2).trans p1) ((hW.below.cell (p := ⟨ga, oa + 2, none⟩) hga2).trans p2)
     ((hW.below.cell (p := ⟨gb, ob, none⟩) hgb2).trans q0) ((hW.below.cell (p := ⟨gb, ob + 1, none⟩) hgb2).trans q1) ((hW.below.cell (p := ⟨gb, ob + 2, none⟩) hgb2).trans q2))
    obtain ⟨r, hr⟩ : ∃ r, r = cmpN x y := ⟨_, rfl⟩
    rw [← hr] at HND
    have HRR := Lib.hid hr
    clear c0 c1 c2 e0 e1 e2 p0 p1 p2 q0 q1 q2 hna hnb ht1 ht2 hkR hha hhb hna2 hnb2 hr hka hkb hwt
    go_wp2
    go_quiet (fail)
    go_wp2_with fail
    refine (HND.out _ (by first | exact (GB.refl _ _).drewN _ | exact (GB.refl _ _).drew)).mono ?_
    rintro e w2 ⟨rfl, hb2⟩
    have hgb3 : GB w.heap.size w w2 := (by first | exact hgb.drewN _ | exact hgb.drew : GB w.heap.size w _).trans (hb2.mono hgb.below.size)
    have HOW2 := Lib.hid (own_below HOWN.out ((below_drewN (Below.refl _ _) _).trans hb2.below))
    have hgw2 : g < w2.heap.size := Nat.lt_of_lt_of_le hgw hb2.below.size
    clear hb2 HND
    by_cases hr0 : r = 0
    ·subst hr0
     have HDN : Hid (cmpN x y = 0) := Lib.hid HRR.out.symm
     by_cases h1 : 1 < na
     ·have hf1 : decide (1 < na) = true := decide_eq_true h1
      have hf2 : decide ((1 : Int) < (na : Int)) = true := decide_eq_true (by omega)
      have p3 := (hgb3.below.cell (p := ⟨ga, oa + 3, none⟩) hga).trans c3
      have q3 := (hgb3.below.cell (p := ⟨gb, ob + 3, none⟩) hgbl).trans e3
      clear c3 e3
      go_wp2_with fail
      go_region_law (refine step_append_d (by rfl) _ _ _ (by rfl) w.heap.size 215 j0 _ 2 48 Tryz.underlying213 hij hy0 hy1 hy2 rfl (by omega) g k cap (flat R) (by rfl) (own_below HOW2.out ((Below.refl _ _).drew.alloc (by simp) _)) ⟨_, 0, none⟩ 1 1 [.slice A4 (na - 1) c4, .slice B4 (nb - 1) d4] (by rfl) (by rfl) (two_cells _ _ _ _) (two_one rfl rfl) (by unfold maxLen; omega) (by omega) (by have := hgb3.below.size; simp; omega) ?_; intro g' cap' w4 hown4 hgr4 hg4 hlt4 hdr4)
      all_goals
       have hgb4 : GB w.heap.size w w4 := GB.grown ((hgb3.drew).alloc (by have := hgb3.below.size; simp; omega) _) hgr4 hdr4 (by have := hgb3.below.size; simp; omega) hgl
       have hg2 : w.heap.size ≤ g' := by
        have := hgb3.below.size
        rcases hg4 with h | h
        ·omega
        ·rw [h]; simp; omega
       have HO1 := Lib.hid hown4
       have p4 : w4.cell? ⟨ga, oa + 3, none⟩ = some (.slice A2 na2 ca2) := (hgb4.below.cell (p := ⟨ga, oa + 3, none⟩) hga).trans ((hgb3.below.cell (p := ⟨ga, oa + 3, none⟩) hga).symm.trans p3)
       have q4 : w4.cell? ⟨gb, ob + 3, none⟩ = some (.slice B2 nb2 cb2) := (hgb4.below.cell (p := ⟨gb, ob + 3, none⟩) hgbl).trans ((hgb3.below.cell (p := ⟨gb, ob + 3, none⟩) hgbl).symm.trans q3)
       clear hgr4 hdr4 hown4 hg4 p3 q3
       go_wp2
       go_quiet (fail)
       go_wp2
       go_roundg (2 * sizes x.args + wtS ((.slice A4 (na - 1) c4, .slice B4 (nb - 1) d4, ta, tb) :: R))
       case measure => have h5 := HWT.out; have h6 := HSX.out; simp only [wtS]; omega
       case rel =>
        refine ⟨A2, na2, ca2, B2, nb2, cb2, x.args, y.args, (.slice A4 (na - 1) c4, .slice B4 (nb - 1) d4, ta, tb) :: R, g', k + 1, cap', rfl, rfl, rfl, Lib.hid ⟨HX0.out.1, HX0.out.2, ?_⟩, Lib.hid ?_, ?_, hg2, ⟨Nat.le_refl _, ?_⟩, own_below HO1.out (below_drewN (Below.refl _ _) _), by first | exact hgb4.drewN _ | exact hgb4.drew | exact hgb4⟩
        ·intro p hp
         rcases List.mem_cons.1 hp with rfl | hp
         ·exact ⟨HT1.out, HT2.out⟩
         ·exact HI.out.2.2 p hp
        ·rw [← HE.out]
         exact (cmpS_down x y ta tb _ _ R HDN.out _ _ _ _).symm
        ·rw [List.length_cons, ← HKR.out]
        ·have h5 := HWT.out; have h6 := HSX.out; simp only [wtS]; omega
     ·have hf1 : decide (1 < na) = false := decide_eq_false h1
      have hf2 : decide ((1 : Int) < (na : Int)) = false := decide_eq_false (by omega)
      by_cases h2 : 1 < nb
      ·have hf3 : decide (1 < nb) = true := decide_eq_true h2
       have hf4 : decide ((1 : Int) < (nb : Int)) = true := decide_eq_true (by omega)
       have p3 := (hgb3.below.cell (p := ⟨ga, oa + 3, none⟩) hga).trans c3
       have q3 := (hgb3.below.cell (p := ⟨gb, ob + 3, none⟩) hgbl).trans e3
       clear c3 e3
       go_wp2_with fail
       go_region_law (refine step_append_d (by rfl) _ _ _ (by rfl) w.heap.size 215 j0 _ 2 48 Tryz.underlying213 hij hy0 hy1 hy2 rfl (by omega) g k cap (flat R) (by rfl) (own_below HOW2.out ((Below.refl _ _).drew.alloc (by simp) _)) ⟨_, 0, none⟩ 1 1 [.slice A4 (na - 1) c4, .slice B4 (nb - 1) d4] (by rfl) (by rfl) (two_cells _ _ _ _) (two_one rfl rfl) (by unfold maxLen; omega) (by omega) (by have := hgb3.below.size; simp; omega) ?_; intro g' cap' w4 hown4 hgr4 hg4 hlt4 hdr4)
       all_goals
        have hgb4 : GB w.heap.size w w4 := GB.grown ((hgb3.drew).alloc (by have := hgb3.below.size; simp; omega) _) hgr4 hdr4 (by have := hgb3.below.size; simp; omega) hgl
        have hg2 : w.heap.size ≤ g' := by
         have := hgb3.below.size
         rcases hg4 with h | h
         ·omega
         ·rw [h]; simp; omega
        have HO1 := Lib.hid hown4
        have p4 : w4.cell? ⟨ga, oa + 3, none⟩ = some (.slice A2 na2 ca2) := (hgb4.below.cell (p := ⟨ga, oa + 3, none⟩) hga).trans ((hgb3.below.cell (p := ⟨ga, oa + 3, none⟩) hga).symm.trans p3)
        have q4 : w4.cell? ⟨gb, ob + 3, none⟩ = some (.slice B2 nb2 cb2) := (hgb4.below.cell (p := ⟨gb, ob + 3, none⟩) hgbl).trans ((hgb3.below.cell (p := ⟨gb, ob + 3, none⟩) hgbl).symm.trans q3)
        clear hgr4 hdr4 hown4 hg4 p3 q3
        go_wp2
        go_quiet (fail)
        go_wp2
        go_roundg (2 * sizes x.args + wtS ((.slice A4 (na - 1) c4, .slice B4 (nb - 1) d4, ta, tb) :: R))
        case measure => have h5 := HWT.out; have h6 := HSX.out; simp only [wtS]; omega
        case rel =>
         refine ⟨A2, na2, ca2, B2, nb2, cb2, x.args, y.args, (.slice A4 (na - 1) c4, .slice B4 (nb - 1) d4, ta, tb) :: R, g', k + 1, cap', rfl, rfl, rfl, Lib.hid ⟨HX0.out.1, HX0.out.2, ?_⟩, Lib.hid ?_, ?_, hg2, ⟨Nat.le_refl _, ?_⟩, own_below HO1.out (below_drewN (Below.refl _ _) _), by first | exact hgb4.drewN _ | exact hgb4.drew | exact hgb4⟩
         ·intro p hp
          rcases List.mem_cons.1 hp with rfl | hp
          ·exact ⟨HT1.out, HT2.out⟩
          ·exact HI.out.2.2 p hp
         ·rw [← HE.out]
          exact (cmpS_down x y ta tb _ _ R HDN.out _ _ _ _).symm
         ·rw [List.length_cons, ← HKR.out]
         ·have h5 := HWT.out; have h6 := HSX.out; simp only [wtS]; omega
      ·have hf3 : decide (1 < nb) = false := decide_eq_false h2
       have hf4 : decide ((1 : Int) < (nb : Int)) = false := decide_eq_false (by omega)
       have hta : ta = [] := List.eq_nil_of_length_eq_zero (by have := HN.out.1; omega)
       have htb : tb = [] := List.eq_nil_of_length_eq_zero (by have := HN.out.2; omega)
       have p3 := (hgb3.below.cell (p := ⟨ga, oa + 3, none⟩) hga).trans c3
       have q3 := (hgb3.below.cell (p := ⟨gb, ob + 3, none⟩) hgbl).trans e3
       clear c3 e3
       go_wp2
       go_quiet (fail)
       go_wp2
       go_roundg (2 * sizes x.args + wtS R)
       case measure => have h5 := HWT.out; have h6 := HSX.out; omega
       case rel =>
        refine ⟨A2, na2, ca2, B2, nb2, cb2, x.args, y.args, R, g, k, cap, rfl, rfl, rfl, Lib.hid ⟨HX0.out.1, HX0.out.2, HI.out.2.2⟩, Lib.hid ?_, HKR.out, hgl, ⟨Nat.le_refl _, ?_⟩, own_below HOW2.out (below_drewN (Below.refl _ _) _), by first | exact hgb3.drewN _ | exact hgb3.drew | exact hgb3⟩
        ·rw [← HE.out, cmpS_down x y ta tb _ _ R HDN.out (.slice A2 na2 ca2) (.slice B2 nb2 cb2) undef undef, hta, htb]
         rfl
        ·have h5 := HWT.out; have h6 := HSX.out; omega
    ·have HR : Hid (cmpL L M = r) := Lib.hid (by
      have h := HRR.out
      rw [← HE.out]
      simp only [cmpS]
      rw [cmpL_cons, cmp_node x y, ← h, if_pos hr0, if_pos hr0, if_pos hr0])
     go_wp2
     go_ret
     exact ⟨ret_int HR.out.symm, hgb3⟩
/-- a term by value -/
abbrev aggT (t : TermM) (v : Value) : Value := .agg #[.int .i64 t.op, .string (bstr t.name), .int .i64 t.sort, v]
set_option maxRecDepth 20000 in
set_option maxHeartbeats 2000000 in
/-- impl.CompareTerms -/
theorem compare_any {n : Nat} (t u : TermM) (va vb : Value) (w : World) {lo lo' : Nat} (ha : HasTs n lo w va t.args) (hb : HasTs n lo' w vb u.args) (hsz : sizes t.args ≤ 2097152) :
  Calls Tryz.prog 101 #[aggT t va, aggT u vb] w fun e w' => e = .returned (.int .i64 (cmp t u)) ∧ GB w.heap.size w w' := by
 obtain ⟨A, ca, rfl, _⟩ := HasR.shape ha rfl
 obtain ⟨B, cb, rfl, _⟩ := HasR.shape hb rfl
 have HL := Lib.hid (fun W (hW : GB w.heap.size w W) => lists_any t.args u.args _ _ W (ha.below (Nat.le_refl _) hW.below) (hb.below (Nat.le_refl _) hW.below) hsz)
 have HN := Lib.hid (fun W => nodes_any t u w.heap.size 0 (w.heap.size + 1) 0 W)
 obtain ⟨r, hr⟩ : ∃ r, r = cmpN t u := ⟨_, rfl⟩
 obtain ⟨z, hz⟩ : ∃ z, z = cmpL t.args u.args := ⟨_, rfl⟩
 have HC : Hid (cmp t u = if r ≠ 0 then r else z) := Lib.hid (by rw [hr, hz]; exact cmp_node t u)
 obtain ⟨c, hc⟩ : ∃ c, c = cmp t u := ⟨_, rfl⟩
 rw [← hc] at HC ⊢
 rw [← hr] at HN
 rw [← hz] at HL
 unfold aggT
 obtain ⟨k, hk⟩ : ∃ k, k = t.args.length := ⟨_, rfl⟩
 obtain ⟨m, hm⟩ : ∃ m, m = u.args.length := ⟨_, rfl⟩
 rw [← hk] at HL ⊢
 rw [← hm] at HL ⊢
 obtain ⟨to, hto⟩ : ∃ q, q = t.op := ⟨_, rfl⟩
 obtain ⟨tn, htn⟩ : ∃ q, q = t.name := ⟨_, rfl⟩
 obtain ⟨ts, hts⟩ : ∃ q, q = t.sort := ⟨_, rfl⟩
 obtain ⟨uo, huo⟩ : ∃ q, q = u.op := ⟨_, rfl⟩
 obtain ⟨un, hun⟩ : ∃ q, q = u.name := ⟨_, rfl⟩
 obtain ⟨us, hus⟩ : ∃ q, q = u.sort := ⟨_, rfl⟩
 rw [← hto, ← htn, ← hts, ← huo, ← hun, ← hus] at HN ⊢
 clear ha hb hsz hr hz hc hk hm hto htn hts huo hun hus
 go_enter Tryz.func101, Tryz.ntmps101
 go_wp2_with fail
 refine (HN.out _ (by simp; omega) (by simp) (by simp) (by simp) (by simp) (by simp) (by simp) (by simp)).mono ?_
 rintro e w1 ⟨rfl, hb1⟩
 have hgb : GB w.heap.size w w1 := ((((GB.refl _ _).alloc (Nat.le_refl _) _).alloc (by simp) _)).trans (hb1.mono (by simp; omega))
 have d1 : w1.cell? ⟨w.heap.size, 3, none⟩ = some (.slice A k ca) := by rw [hb1.below.cell (p := ⟨w.heap.size, 3, none⟩) (by simp; omega)]; simp
 have d2 : w1.cell? ⟨w.heap.size + 1, 3, none⟩ = some (.slice B m cb) := by rw [hb1.below.cell (p := ⟨w.heap.size + 1, 3, none⟩) (by simp)]; simp
 clear hb1
 by_cases h0 : r = 0
 ·subst h0
  have HE : Hid (c = z) := Lib.hid (by rw [HC.out]; simp)
  go_wp2_with fail
  refine (HL.out _ hgb).mono ?_
  rintro e w2 ⟨rfl, hb2⟩
  have hgb2 := hgb.trans (hb2.mono hgb.below.size)
  clear hb2
  go_wp2
  go_ret
  exact ⟨ret_int HE.out.symm, hgb2⟩
 ·have HE : Hid (c = r) := Lib.hid (by rw [HC.out, if_pos h0])
  go_wp2
  go_ret
  exact ⟨ret_int HE.out.symm, hgb⟩
end Go.Proofs.YtkkmjaggebjcbaaGreat.termx
/-
 THE METHODS OF AN OPERATOR WITH ITS SHAPE.
-/
namespace Go.Proofs.YtkkmjaggebjcbaaGreat.gramo
open Go.ChangeShapes Go.WideShapes Go.ChangeAt Go.RowKit
open mem dec rowl trm trmv terml termb termt termx sigi gram

abbrev aggE (nm : List UInt8) (A : Option Addr) (n c : Nat) (a b : Bool) (u : Int) (i s0 s1 s2 s3 s4 : Nat) : Value := .agg #[.string (bstr nm), .slice A n c, .bool a, .bool b, .int .i64 u, .int .i64 (i : Int), .int .i64 (s0 : Int), .int .u16 (s1 : Int), .int .u16 (s2 : Int), .int .u16 (s3 : Int), .int .u16 (s4 : Int)]
theorem takes_any (nm : List UInt8) (A : Option Addr) (n c : Nat) (a b : Bool) (u : Int) (i s0 s1 s2 s3 s4 m : Nat) (hm : m ≤ 9223372036854775807) (r : Bool) (hr : (if a then decide (2 ≤ m) else decide (m = s0)) = r) (w : World) :
  Calls Tryz.prog 129 #[aggE nm A n c a b u i s0 s1 s2 s3 s4, .int .i64 m] w fun e w' => e = .returned (.bool r) ∧ Below w.heap.size w w' := by
 have HR := Lib.hid hr
 clear hr
 cases a with
 | true =>
  have HB : Hid (decide ((2 : Int) ≤ (m : Int)) = r) := Lib.hid (by rw [← HR.out, if_pos rfl, Bool.eq_iff_iff]; simp; omega)
  go_enter Tryz.func129, Tryz.ntmps129
  go_wp2
  go_ret
  exact ⟨ret_bool (by rw [← HB.out]; try simp), (Below.refl _ _).alloc (Nat.le_refl _) _⟩
 | false =>
  have HB : Hid (((m : Int) == (s0 : Int)) = r) := Lib.hid (by rw [← HR.out, if_neg (by simp), Bool.eq_iff_iff]; simp; omega)
  go_enter Tryz.func129, Tryz.ntmps129
  go_wp2
  go_ret
  exact ⟨ret_bool (by rw [← HB.out]; try simp), (Below.refl _ _).alloc (Nat.le_refl _) _⟩
/-- the kind at a place -/
def kAtS (a : Bool) (s : Shp) (k : Nat) : Nat := if a then s.2.1 else match k with | 0 => s.2.1 | 1 => s.2.2.1 | _ => s.2.2.2.1
theorem kindAt_any (nm : List UInt8) (A : Option Addr) (n c : Nat) (a b : Bool) (u : Int) (i s0 s1 s2 s3 s4 k : Nat) (hk : a = false → k < 3) (w : World) :
  Calls Tryz.prog 131 #[aggE nm A n c a b u i s0 s1 s2 s3 s4, .int .i64 k] w fun e w' => e = .returned (.int .u16 ((kAtS a (s0, s1, s2, s3, s4) k : Nat) : Int)) ∧ Below w.heap.size w w' := by
 cases a with
 | true =>
  go_enter Tryz.func131, Tryz.ntmps131
  go_wp2
  go_ret
  exact ⟨rfl, (Below.refl _ _).alloc (Nat.le_refl _) _⟩
 | false =>
  have hk := hk rfl
  have hcs : k = 0 ∨ k = 1 ∨ k = 2 := by omega
  rcases hcs with rfl | rfl | rfl
  all_goals
   go_enter Tryz.func131, Tryz.ntmps131
   go_wp2
   go_ret
   exact ⟨rfl, (Below.refl _ _).alloc (Nat.le_refl _) _⟩
theorem hasUnit_any (nm : List UInt8) (A : Option Addr) (n c : Nat) (a b : Bool) (u : Int) (i s0 s1 s2 s3 s4 : Nat) (r : Bool) (hr : decide (u ≠ 0) = r) (w : World) :
  Calls Tryz.prog 133 #[aggE nm A n c a b u i s0 s1 s2 s3 s4] w fun e w' => e = .returned (.bool r) ∧ Below w.heap.size w w' := by
 have HB : Hid ((!(u == 0)) = r) := Lib.hid (by rw [← hr, Bool.eq_iff_iff]; simp)
 clear hr
 go_enter Tryz.func133, Tryz.ntmps133
 go_wp2
 go_ret
 exact ⟨ret_bool (by rw [← HB.out]; rfl), (Below.refl _ _).alloc (Nat.le_refl _) _⟩
set_option maxRecDepth 20000 in
theorem unit_any (nm : List UInt8) (A : Option Addr) (n c : Nat) (a b : Bool) (u : Int) (hu : I64 u) (hu0 : 0 ≤ u) (i s0 s1 s2 s3 s4 : Nat) (w : World) :
  Calls Tryz.prog 134 #[aggE nm A n c a b u i s0 s1 s2 s3 s4] w fun e w' => e = .returned (.agg #[.int .i64 (u - 1), .string { data := #[] }, .int .i64 0, .slice none 0 0]) ∧ Below w.heap.size w w' := by
 obtain ⟨hu1, hu2⟩ := hu
 have hw : IntKind.i64.wrap (u - 1) = u - 1 := IntWalk.i64_in _ (by omega)
 have hw2 : wrap64 (u - 1) = u - 1 := IntWalk.wrap64_in (u - 1) (by omega)
 clear hu1 hu2 hu0
 go_enter Tryz.func134, Tryz.ntmps134
 go_wp2
 refine bodyPost_ret (v := .agg #[.int .i64 (u - 1), .string { data := #[] }, .int .i64 0, .slice none 0 0]) (by simp [results, Tryz.results134, go_sem]) rfl ⟨rfl, ?_⟩
 repeat (first | (refine Below.setCell ?_ (by first | (simp; done) | (simp; omega)) _) | (refine Below.alloc ?_ (by first | (simp; done) | (simp; omega)) _))
 exact Below.refl _ _
set_option maxRecDepth 20000 in
theorem isUnit_any (nm : List UInt8) (A : Option Addr) (n c : Nat) (a b : Bool) (u : Int) (hu : I64 u) (hu0 : 0 ≤ u) (i s0 s1 s2 s3 s4 : Nat) (t : TermM) (B : Option Addr) (m cb : Nat) (r : Bool) (hr : decide (u ≠ 0 ∧ t.op = u - 1) = r) (w : World) :
  Calls Tryz.prog 164 #[aggE nm A n c a b u i s0 s1 s2 s3 s4, .agg #[.int .i64 t.op, .string (bstr t.name), .int .i64 t.sort, .slice B m cb]] w fun e w' => e = .returned (.bool r) ∧ Below w.heap.size w w' := by
 have HU := Lib.hid (fun r hr W => hasUnit_any nm A n c a b u i s0 s1 s2 s3 s4 r hr W)
 obtain ⟨hu1, hu2⟩ := hu
 have HB2 : ∀ w : World, ∀ o1 o2 : Obj, Below w.heap.size w ((w.alloc o1).alloc o2) := fun w o1 o2 => ((Below.refl _ _).alloc (Nat.le_refl _) _).alloc (by simp) _
 have hw : IntKind.i64.wrap (u - 1) = u - 1 := IntWalk.i64_in _ (by omega)
 by_cases h0 : u = 0
 ·have HR : Hid (r = false) := Lib.hid (by rw [← hr]; exact decide_eq_false (fun e => e.1 h0))
  have HU1 := Lib.hid (HU.out false (decide_eq_false (fun e => e h0)))
  clear hr HU h0 hw HB2 hu0 hu1 hu2
  go_enter Tryz.func164, Tryz.ntmps164
  go_wp2_with fail
  refine (HU1.out _).mono ?_
  rintro e w1 ⟨rfl, hb1⟩
  go_wp2
  go_ret
  exact ⟨ret_bool HR.out.symm, ((((Below.refl _ _).alloc (Nat.le_refl _) _).alloc (by simp) _).trans (hb1.mono (by simp; omega)))⟩
 ·have HU1 := Lib.hid (HU.out true (decide_eq_true h0))
  have HR : Hid ((t.op == u - 1) = r) := Lib.hid (by rw [← hr, Bool.eq_iff_iff]; simp [h0])
  clear hr HU h0 HB2 hu0 hu1 hu2
  go_enter Tryz.func164, Tryz.ntmps164
  go_wp2_with fail
  refine (HU1.out _).mono ?_
  rintro e w1 ⟨rfl, hb1⟩
  have e1 : w1.cell? ⟨w.heap.size, 4, none⟩ = some (.int .i64 u) := (hb1.cell (p := ⟨w.heap.size, 4, none⟩) (by simp; omega)).trans (by simp)
  have e2 : w1.cell? ⟨w.heap.size + 1, 0, none⟩ = some (.int .i64 t.op) := (hb1.cell (p := ⟨w.heap.size + 1, 0, none⟩) (by simp)).trans (by simp)
  have hbf : Below w.heap.size w w1 := ((((Below.refl _ _).alloc (Nat.le_refl _) _).alloc (by simp) _).trans (hb1.mono (by simp; omega)))
  clear hb1
  go_wp2
  go_ret
  exact ⟨ret_bool (by rw [← HR.out]; try rfl), hbf⟩
set_option maxRecDepth 20000 in
theorem absorbs_any (nm : List UInt8) (A : Option Addr) (n c : Nat) (a b : Bool) (u : Int) (i s0 s1 s2 s3 s4 : Nat) (t : TermM) (B : Option Addr) (m cb : Nat) (r : Bool) (hr : (a && decide (t.op = i)) = r) (w : World) :
  Calls Tryz.prog 165 #[aggE nm A n c a b u i s0 s1 s2 s3 s4, .agg #[.int .i64 t.op, .string (bstr t.name), .int .i64 t.sort, .slice B m cb]] w fun e w' => e = .returned (.bool r) ∧ Below w.heap.size w w' := by
 have hbf : ∀ o1 o2 : Obj, Below w.heap.size w ((w.alloc o1).alloc o2) := fun o1 o2 => ((Below.refl _ _).alloc (Nat.le_refl _) _).alloc (by simp) _
 have HBF := Lib.hid hbf
 cases a with
 | false =>
  have HR : Hid (r = false) := Lib.hid (by rw [← hr]; rfl)
  clear hr hbf
  go_enter Tryz.func165, Tryz.ntmps165
  go_wp2
  go_ret
  exact ⟨ret_bool HR.out.symm, HBF.out _ _⟩
 | true =>
  have HR : Hid ((t.op == (i : Int)) = r) := Lib.hid (by rw [← hr, Bool.eq_iff_iff]; simp)
  clear hr hbf
  go_enter Tryz.func165, Tryz.ntmps165
  go_wp2
  go_ret
  exact ⟨ret_bool (by rw [← HR.out]; try rfl), HBF.out _ _⟩
set_option maxRecDepth 20000 in
/-- slices.IndexFunc, at terms -/
theorem indexT_any (f : Nat) (bnd cap : Array Value) (eg : ∀ args w, (callFunc f args).run Tryz.prog w = .ok (.enter f args) w) (p : TermM → Bool) {N lo : Nat} (L : List TermM) (v : Value) (w : World) (h : HasTs N lo w v L)
  (hp : ∀ t ∈ L, ∀ (B : Option Addr) (m cb : Nat) W, Below w.heap.size w W → Calls Tryz.prog f (bnd.push (.agg #[.int .i64 t.op, .string (bstr t.name), .int .i64 t.sort, .slice B m cb]) ++ cap) W fun e w' => e = .returned (.bool (p t)) ∧ Below W.heap.size W w') :
  Calls Tryz.prog 185 #[v, .func (.func f) bnd cap] w fun e w' => ∃ i : Int, e = .returned (.int .i64 i) ∧ (0 ≤ i ↔ L.any p = true) ∧ Below w.heap.size w w' := by
 obtain ⟨n, hn⟩ : ∃ n, n = L.length := ⟨_, rfl⟩
 obtain ⟨A, c, rfl, h⟩ := HasR.shape h hn.symm
 have hl := h.len.2.1
 have HH := Lib.hid h
 have HN := Lib.hid hn
 have HP := Lib.hid hp
 clear h hn hp
 go_enter Tryz.func185, Tryz.ntmps185
 go_wp2
 go_loopw [5, 8] (fun _ i wr => ∃ k : Nat, k ≤ n ∧ i = .int .i64 k ∧ Hid (∀ j, j < k → p (L.getD j default) = false) ∧ Hid (Below w.heap.size w wr)) (fun _ i _ => n - (intOf i).toNat)
 case atStart => exact ⟨0, Nat.zero_le _, rfl, Lib.hid (fun j hj => by omega), Lib.hid (Below.refl _ _)⟩
 case round =>
  obtain ⟨k, hk, rfl, HALL, HB⟩ := hrel
  by_cases hlt : k < n
  ·obtain ⟨_, g, o, A2, c2, _, rfl, _, hg, e0, e1, e2, e3, _, _⟩ := term_at HH.out hlt
   have hbel := HB.out
   have s0 := (hbel.cell (p := ⟨g, o + k * 4, none⟩) hg).trans e0
   have s1 := (hbel.cell (p := ⟨g, o + k * 4 + 1, none⟩) hg).trans e1
   have s2 := (hbel.cell (p := ⟨g, o + k * 4 + 2, none⟩) hg).trans e2
   have s3 := (hbel.cell (p := ⟨g, o + k * 4 + 3, none⟩) hg).trans e3
   have hmem : L.getD k default ∈ L := by rw [getD_at (by have := HN.out; omega)]; exact List.getElem_mem _
   have HC := Lib.hid (HP.out (L.getD k default) hmem A2 (L.getD k default).args.length c2 wr hbel)
   have HX : Hid (p (L.getD k default) = true → L.any p = true) := Lib.hid (fun hq => List.any_eq_true.2 ⟨_, hmem, hq⟩)
   have HG : Hid (p (L.getD k default) = false → ∀ j, j < k + 1 → p (L.getD j default) = false) := Lib.hid (fun hq j hj => by
    by_cases e : j = k
    ·subst e; exact hq
    ·exact HALL.out j (by omega))
   have i1 : (0 : Int) ≤ (k : Int) := by omega
   have i2 : (k : Int) < (n : Int) := by omega
   obtain ⟨t, ht⟩ : ∃ t, t = L.getD k default := ⟨_, rfl⟩
   rw [← ht] at s0 s1 s2 s3 HC HX HG
   obtain ⟨q, hq⟩ : ∃ q, q = p t := ⟨_, rfl⟩
   rw [← hq] at HC HX HG
   clear e0 e1 e2 e3 hbel hmem ht hq
   go_wp2_with fail
   refine HC.out.mono ?_
   rintro e w1 ⟨rfl, hb1⟩
   have HB1 : Hid (Below w.heap.size w w1) := Lib.hid (HB.out.trans (hb1.mono HB.out.size))
   clear hb1 s0 s1 s2 s3 HC
   cases q with
   | true =>
    go_wp2
    go_ret
    exact ⟨(k : Int), rfl, ⟨fun _ => HX.out trivial, fun _ => by omega⟩, HB1.out⟩
   | false =>
    have HG' := Lib.hid (HG.out rfl)
    go_wp2
    go_roundw
    case rel => exact ⟨k + 1, by omega, by go_num, HG', HB1⟩
    case measure => simp [intOf]; omega
  ·obtain rfl : k = n := by omega
   have HF : Hid (L.any p = false) := Lib.hid (by
    rw [List.any_eq_false]
    intro t ht
    obtain ⟨j, hj, rfl⟩ := List.getElem_of_mem ht
    have := HALL.out j (by have := HN.out; omega)
    rw [getD_at hj] at this
    simp [this])
   go_wp2
   go_ret
   exact ⟨-1, rfl, ⟨fun h => by omega, fun h => (by rw [HF.out] at h; cases h)⟩, HB.out⟩
/-- slices.ContainsFunc, at terms -/
theorem containsT_any (f : Nat) (bnd cap : Array Value) (eg : ∀ args w, (callFunc f args).run Tryz.prog w = .ok (.enter f args) w) (p : TermM → Bool) {N lo : Nat} (L : List TermM) (v : Value) (w : World) (h : HasTs N lo w v L)
  (hp : ∀ t ∈ L, ∀ (B : Option Addr) (m cb : Nat) W, Below w.heap.size w W → Calls Tryz.prog f (bnd.push (.agg #[.int .i64 t.op, .string (bstr t.name), .int .i64 t.sort, .slice B m cb]) ++ cap) W fun e w' => e = .returned (.bool (p t)) ∧ Below W.heap.size W w') (r : Bool) (hr : L.any p = r) :
  Calls Tryz.prog 163 #[v, .func (.func f) bnd cap] w fun e w' => e = .returned (.bool r) ∧ Below w.heap.size w w' := by
 have HC := Lib.hid (indexT_any f bnd cap eg p L v w h hp)
 rw [hr] at HC
 obtain ⟨A, c, rfl, _⟩ := HasR.shape h rfl
 clear hr h hp
 go_enter Tryz.func163, Tryz.ntmps163
 go_wp2_with fail
 refine HC.out.mono ?_
 rintro e w1 ⟨i, rfl, hi, hb1⟩
 cases r with
 | true =>
  have hd : decide (0 ≤ i) = true := decide_eq_true (hi.2 rfl)
  have h0 : 0 ≤ i := hi.2 rfl
  clear hi
  go_wp2
  go_ret
  exact ⟨rfl, hb1⟩
 | false =>
  have h0 : ¬ 0 ≤ i := fun h => by have := hi.1 h; cases this
  have hd : decide (0 ≤ i) = false := decide_eq_false h0
  clear hi
  go_wp2
  go_ret
  exact ⟨rfl, hb1⟩
end Go.Proofs.YtkkmjaggebjcbaaGreat.gramo
/-
 THE PROGRAM's FUNCTIONS OF THE SORTS OF TERMS: what the declarations of an operator give.
-/
namespace Go.Proofs.YtkkmjaggebjcbaaGreat.tsj
open Go.ChangeShapes Go.WideShapes Go.ChangeAt Go.RowKit
open mem split strl subs sortn setm sets sortm sortp sorti rowl sigm sigs gramo tsm tsi

theorem DeclN.at {n m : Nat} {D : List (List Int × Int)} (h : DeclN n m D) {k : Nat} (hk : k < D.length) : (D.getD k ([], 0)).1.length = m ∧ (0 ≤ (D.getD k ([], 0)).2 ∧ (D.getD k ([], 0)).2 < n) ∧ ∀ j, j < m → 0 ≤ (D.getD k ([], 0)).1.getD j 0 ∧ (D.getD k ([], 0)).1.getD j 0 < n := by
 have hm : D.getD k ([], 0) ∈ D := by rw [List.getD_eq_getElem?_getD, List.getElem?_eq_getElem hk]; exact List.getElem_mem _
 obtain ⟨h1, h2, h3⟩ := h _ hm
 simp only [inN, decide_eq_true_eq] at h2 h3
 exact ⟨h1, h2, h3⟩
end Go.Proofs.YtkkmjaggebjcbaaGreat.tsj
/-
 THE PROGRAM's FUNCTIONS OF THE SORTS OF TERMS: what all ways to take a group of arguments apart give.
-/
namespace Go.Proofs.YtkkmjaggebjcbaaGreat.tsk
open Go.ChangeShapes Go.WideShapes Go.ChangeAt Go.RowKit
open mem split strl subs sortn setm sets sortm sortp sorti rowl sigm sigs gramo tsm tsi tsj

/-- an array of 128 sets -/
def ArrF (w : World) (b : Nat) (f : Nat → Nat) : Prop := b < w.heap.size ∧ ∀ x, x < 128 → w.cell? ⟨b, x, none⟩ = some (.int .u16 ((f x : Nat) : Int)) ∧ w.frozen? ⟨b, x, none⟩ = false
theorem ArrF.below {w w' : World} {b : Nat} {f : Nat → Nat} (h : ArrF w b f) {B : Nat} (hB : b < B) (hb : Below B w w') : ArrF w' b f :=
 ⟨Nat.lt_of_lt_of_le h.1 hb.size, fun x hx => ⟨(hb.cell (p := ⟨b, x, none⟩) hB).trans (h.2 x hx).1, (hb.frozen (p := ⟨b, x, none⟩) hB).trans (h.2 x hx).2⟩⟩
abbrev C11 (x : Nat) (nm : List UInt8) (A : Option Addr) (n c : Nat) (a b : Bool) (u : Int) (i s0 s1 s2 s3 s4 : Nat) (w : World) : Prop :=
 w.cell? ⟨x, 0, none⟩ = some (.string (bstr nm)) ∧ w.cell? ⟨x, 1, none⟩ = some (.slice A n c) ∧ w.cell? ⟨x, 2, none⟩ = some (.bool a) ∧ w.cell? ⟨x, 3, none⟩ = some (.bool b) ∧ w.cell? ⟨x, 4, none⟩ = some (.int .i64 u) ∧ w.cell? ⟨x, 5, none⟩ = some (.int .i64 (i : Int)) ∧
 w.cell? ⟨x, 6, none⟩ = some (.int .i64 (s0 : Int)) ∧ w.cell? ⟨x, 7, none⟩ = some (.int .u16 (s1 : Int)) ∧ w.cell? ⟨x, 8, none⟩ = some (.int .u16 (s2 : Int)) ∧ w.cell? ⟨x, 9, none⟩ = some (.int .u16 (s3 : Int)) ∧ w.cell? ⟨x, 10, none⟩ = some (.int .u16 (s4 : Int))
theorem C11.below {x : Nat} {nm : List UInt8} {A : Option Addr} {n c : Nat} {a b : Bool} {u : Int} {i s0 s1 s2 s3 s4 : Nat} {w w' : World} (h : C11 x nm A n c a b u i s0 s1 s2 s3 s4 w) (hb : Below w.heap.size w w') : C11 x nm A n c a b u i s0 s1 s2 s3 s4 w' := by
 have hx : x < w.heap.size := block_lt_of_cell h.1
 have k : ∀ y, w'.cell? ⟨x, y, none⟩ = w.cell? ⟨x, y, none⟩ := fun y => hb.cell (p := ⟨x, y, none⟩) hx
 unfold C11
 rw [k, k, k, k, k, k, k, k, k, k, k]
 exact h
end Go.Proofs.YtkkmjaggebjcbaaGreat.tsk
/-
 THE PROGRAM's FUNCTIONS OF THE SORTS OF TERMS: combinedSorts, resultSorts.
-/
namespace Go.Proofs.YtkkmjaggebjcbaaGreat.tsl
open Go.ChangeShapes Go.WideShapes Go.ChangeAt Go.RowKit
open mem split strl subs sortn setm sets sortm sortp sorti rowl sigm sigs gramo tsm tsi tsj tsk

theorem ArrF.set {w : World} {b : Nat} {f : Nat → Nat} (h : ArrF w b f) {x : Nat} (hx : x < 128) (v : Nat) : ArrF (w.setCell ⟨b, x, none⟩ (.int .u16 (v : Int))) b (fun y => if y = x then v else f y) := by
 refine ⟨by rw [show (w.setCell ⟨b, x, none⟩ (.int .u16 (v : Int))).heap.size = w.heap.size by simp [World.setCell]]; exact h.1, fun y hy => ⟨?_, ?_⟩⟩
 ·by_cases e : y = x
  ·subst e
   simp only [if_pos]
   exact World.cell?_setCell_same _ _ _ (h.2 y hy).1
  ·simp only [if_neg e]
   rw [World.cell?_setCell_other w ⟨b, x, none⟩ ⟨b, y, none⟩ _ (fun e' => e (by injection e' with _ h _; exact h.symm))]
   exact (h.2 y hy).1
 ·rw [World.frozen?_setCell]
  exact (h.2 y hy).2
theorem zero128 : Tryz.zeroCells252 = Array.replicate 128 (.int .u16 0) := by kernel_rfl
theorem ArrF.new (w : World) : ArrF (w.alloc (.cells Tryz.zeroCells252 252)) w.heap.size (fun _ => 0) := by
 rw [zero128]
 refine ⟨by simp, fun x hx => ⟨?_, ?_⟩⟩
 ·refine (cell_of_row _ _ x _ _ _ (termt.heap_at _ _ _ rfl)).trans ?_
  simp [hx]
 ·simp
theorem heap3a (w : World) (o1 o2 o3 : Obj) : (((w.alloc o1).alloc o2).alloc o3).heap[w.heap.size]? = some o1 := by
 show (((w.heap.push o1).push o2).push o3)[w.heap.size]? = some o1
 rw [Array.getElem?_push, if_neg (by simp; try omega), Array.getElem?_push, if_neg (by simp; try omega), Array.getElem?_push, if_pos rfl]
theorem heap3b (w : World) (o1 o2 o3 : Obj) : (((w.alloc o1).alloc o2).alloc o3).heap[w.heap.size + 1]? = some o2 := by
 show (((w.heap.push o1).push o2).push o3)[w.heap.size + 1]? = some o2
 rw [Array.getElem?_push, if_neg (by simp; try omega), Array.getElem?_push, if_pos (by simp; try omega)]
theorem heap2a (w : World) (o1 o2 : Obj) : ((w.alloc o1).alloc o2).heap[w.heap.size]? = some o1 := by
 show ((w.heap.push o1).push o2)[w.heap.size]? = some o1
 rw [Array.getElem?_push, if_neg (by simp; try omega), Array.getElem?_push, if_pos rfl]
theorem box3 {w : World} {x : Nat} {v0 v1 v2 : Value} {t : TypeId} (h : w.heap[x]? = some (.cells #[v0, v1, v2] t (0, 0))) : w.cell? ⟨x, 0, none⟩ = some v0 ∧ w.cell? ⟨x, 1, none⟩ = some v1 ∧ w.cell? ⟨x, 2, none⟩ = some v2 :=
 ⟨cell_of_row w x 0 _ _ _ h, cell_of_row w x 1 _ _ _ h, cell_of_row w x 2 _ _ _ h⟩
theorem box11 {w : World} {x : Nat} {nm : List UInt8} {A : Option Addr} {n c : Nat} {a b : Bool} {u : Int} {i s0 s1 s2 s3 s4 : Nat} {t : TypeId} (h : w.heap[x]? = some (.cells #[.string (bstr nm), .slice A n c, .bool a, .bool b, .int .i64 u, .int .i64 (i : Int), .int .i64 (s0 : Int), .int .u16 (s1 : Int), .int .u16 (s2 : Int), .int .u16 (s3 : Int), .int .u16 (s4 : Int)] t (0, 0))) : C11 x nm A n c a b u i s0 s1 s2 s3 s4 w :=
 ⟨cell_of_row w x 0 _ _ _ h, cell_of_row w x 1 _ _ _ h, cell_of_row w x 2 _ _ _ h, cell_of_row w x 3 _ _ _ h, cell_of_row w x 4 _ _ _ h, cell_of_row w x 5 _ _ _ h, cell_of_row w x 6 _ _ _ h, cell_of_row w x 7 _ _ _ h, cell_of_row w x 8 _ _ _ h, cell_of_row w x 9 _ _ _ h, cell_of_row w x 10 _ _ _ h⟩
end Go.Proofs.YtkkmjaggebjcbaaGreat.tsl
/-
 THE PROGRAM'S WALK THROUGH A TREE (walkTerm), for any function that is called at the nodes.
-/
namespace Go.Proofs.YtkkmjaggebjcbaaGreat.termz
open Go.ChangeShapes Go.WideShapes Go.ChangeAt Go.RowKit
open mem dec rowl trm trmv terml termb termt

/-- a pending node: its block, its first cell, its depth -/
abbrev Ent := Nat × Nat × Nat
def ptr (e : Ent) : Value := .pointer (some ⟨e.1, e.2.1, none⟩)
def flatE : List Ent → List Value
 | [] => []
 | e :: L => flatE L ++ [ptr e, .int .i64 e.2.2]
theorem flatE_len : ∀ L : List Ent, (flatE L).length = L.length * 2
 | [] => rfl
 | p :: R => by simp [flatE, flatE_len R]; omega
/-- the m nodes of a row, the last one first -/
def kids (g o d : Nat) : Nat → List Ent
 | 0 => []
 | m + 1 => (g, o + m * 4, d) :: kids g o d m
theorem kids_len (g o d : Nat) : ∀ m, (kids g o d m).length = m
 | 0 => rfl
 | m + 1 => by rw [kids, List.length_cons, kids_len g o d m]
/-- the place of a node, as it's handed to the function -/
def placeV (e : Ent) : Value := .agg #[ptr e, .int .i64 e.2.2]
/-- what is asked of the function that is called at the nodes: R n S L w: at most n calls are to come, the blocks of S are the walk's own, the nodes L are pending -/
structure Visits (vf : Nat) (cb : Array Value) (R : Nat → List Nat → List Ent → World → Prop) : Prop where
 keep : ∀ {n : Nat} {S S' : List Nat} {L : List Ent} {w w' : World}, R n S L w → Chg S w w' → (∀ k ∈ S', (k ∈ S ∨ w.heap.size ≤ k) ∧ k < w'.heap.size) → R n S' L w'
 ent : ∀ {n : Nat} {S : List Nat} {e : Ent} {L : List Ent} {w : World}, R n S (e :: L) w → e.1 < w.heap.size ∧ e.1 ∉ S ∧ e.2.2 ≤ 1073741824 ∧ n ≤ 1073741824 ∧ L.length ≤ 1073741824
 visit : ∀ {n : Nat} {S : List Nat} {e : Ent} {L : List Ent} {w : World}, R n S (e :: L) w → ∃ n', n = n' + 1 ∧
  Calls Tryz.prog vf (#[placeV e] ++ cb) w fun ex w' => ∃ b, ex = .returned (.bool b) ∧ w.heap.size ≤ w'.heap.size ∧ (∀ k ∈ S, k < w.heap.size → w'.heap[k]? = w.heap[k]?) ∧
   ((b = false ∧ R n' S L w') ∨ (b = true ∧ ∃ A m c, w'.cell? ⟨e.1, e.2.1 + 3, none⟩ = some (.slice A m c) ∧ m ≤ 1073741824 ∧ m ≤ c ∧
    ∃ g o, (m ≠ 0 → A = some ⟨g, o, none⟩) ∧ R n' S (kids g o (e.2.2 + 1) m ++ L) w'))
theorem info_place : (Tryz.prog.info? 174).map (fun i => (i.zero, i.size, i.bytes)) = some (some (.agg #[.pointer none, .int .i64 0]), 2, 16) := by kernel_rfl
theorem flatE_top {R : List Ent} {p : Ent} {k : Nat} (hk : k = R.length) : (flatE (p :: R))[k * 2]? = some (ptr p) ∧ (flatE (p :: R))[k * 2 + 1]? = some (.int .i64 p.2.2) := by
 have h := flatE_len R
 rw [flatE, hk]
 refine ⟨?_, ?_⟩
 ·rw [List.getElem?_append_right (by omega), h, Nat.sub_self]; rfl
 ·rw [List.getElem?_append_right (by omega), h, Nat.add_sub_cancel_left]; rfl
theorem flatE_pop {R : List Ent} {p : Ent} {k : Nat} (hk : k = R.length) : (flatE (p :: R)).take (k * 2) = flatE R := by
 have h := flatE_len R
 rw [flatE, hk, List.take_append_of_le_length (by omega), List.take_of_length_le (by omega)]
theorem two_at (w : World) (u v : Value) (t : TypeId) (b : Nat) (h : b = w.heap.size) : ∀ (j : Nat) (x : Value), [u, v][j]? = some x → (w.alloc (.cells #[u, v] t)).cell? ((⟨b, 0, none⟩ : Addr).add j) = some x := by
 subst h; exact termx.two_cells w u v t
theorem own_same {w w' : World} {base n g cap : Nat} {e : TypeId} {size : Nat} {xs : List Value} (h : w.ownsRow base e size (.slice (some ⟨g, 0, none⟩) n cap) n xs) (hb : w'.heap[g]? = w.heap[g]?) : w'.ownsRow base e size (.slice (some ⟨g, 0, none⟩) n cap) n xs := by
 refine ⟨h.1, ?_⟩
 rcases h.2 with h2 | ⟨g', cap', cur, hv, hg, hh, r⟩
 ·exact .inl h2
 ·have e := hv
  simp only [Value.slice.injEq, Option.some.injEq, Addr.mk.injEq, and_true, true_and] at e
  obtain ⟨rfl, rfl⟩ := e
  exact .inr ⟨g, cap, cur, rfl, hg, by rw [hb]; exact hh, r⟩
theorem own_lt {w : World} {base n g cap : Nat} {e : TypeId} {size : Nat} {xs : List Value} (h : w.ownsRow base e size (.slice (some ⟨g, 0, none⟩) n cap) n xs) : base ≤ g ∧ g < w.heap.size ∧ n ≤ cap := by
 rcases h.2 with ⟨hv, _⟩ | ⟨g', cap', cur, hv, hb, hg, hc, _⟩
 ·cases hv
 ·simp only [Value.slice.injEq, Option.some.injEq, Addr.mk.injEq, and_true, true_and] at hv
  obtain ⟨rfl, rfl⟩ := hv
  exact ⟨hb, (Array.getElem?_eq_some_iff.1 hg).1, hc⟩
theorem keep_far {wr w0 w1 : World} {x gx ox g5 : Nat} {v0 v1 v2 : Value} (h : (w0.cell? ⟨x, 0, none⟩ = some v0 ∧ w0.cell? ⟨x, 1, none⟩ = some v1 ∧ w0.cell? ⟨gx, ox, none⟩ = some v2) ∧ Chg [g5] wr w0) (hx : x < wr.heap.size) (hg : gx < wr.heap.size) (hb : Below w0.heap.size w0 w1) :
  (w1.cell? ⟨x, 0, none⟩ = some v0 ∧ w1.cell? ⟨x, 1, none⟩ = some v1 ∧ w1.cell? ⟨gx, ox, none⟩ = some v2) ∧ Chg [g5] wr w1 := by
 have hs := h.2.size
 have k : ∀ y, w1.cell? ⟨x, y, none⟩ = w0.cell? ⟨x, y, none⟩ := fun y => hb.cell (p := ⟨x, y, none⟩) (by show x < _; omega)
 rw [k, k, hb.cell (p := ⟨gx, ox, none⟩) (by show gx < _; omega)]
 exact ⟨h.1, h.2.trans (Chg.of_below hb)⟩
theorem app_far {wr W w4 : World} {x gx ox g5 : Nat} {v0 v1 v2 : Value} (hgr : W.grownBy w4 (some g5)) (h0 : W.cell? ⟨x, 0, none⟩ = some v0 ∧ W.cell? ⟨x, 1, none⟩ = some v1 ∧ W.cell? ⟨gx, ox, none⟩ = some v2) (hc : Chg [g5] wr W)
  (hne : g5 ≠ x ∧ g5 ≠ gx) (hx : x < wr.heap.size) (hg : gx < wr.heap.size) :
  (w4.cell? ⟨x, 0, none⟩ = some v0 ∧ w4.cell? ⟨x, 1, none⟩ = some v1 ∧ w4.cell? ⟨gx, ox, none⟩ = some v2) ∧ Chg [g5] wr w4 := by
 have hs := hc.size
 have k : ∀ y, w4.cell? ⟨x, y, none⟩ = W.cell? ⟨x, y, none⟩ := fun y => hgr.cell_far ⟨x, y, none⟩ (by show x < _; omega) (by show some x ≠ some g5; intro e; injection e; omega)
 rw [k, k, hgr.cell_far ⟨gx, ox, none⟩ (by show gx < _; omega) (by show some gx ≠ some g5; intro e; injection e; omega)]
 exact ⟨h0, hc.trans ⟨hgr.os, hgr.tape, hgr.output, hgr.size, fun k hk hn => hgr.block k hk (by intro e; injection e; simp at hn; omega)⟩⟩
set_option maxRecDepth 50000 in
set_option maxHeartbeats 8000000 in
theorem walk_any (vf : Nat) (cb : Array Value) (eg : ∀ args w, (callFunc vf args).run Tryz.prog w = .ok (.enter vf args) w) (R : Nat → List Nat → List Ent → World → Prop) (hV : Visits vf cb R) (n g0 o0 : Nat) (w : World) (h : R n [] [(g0, o0, 1)] w) :
  Calls Tryz.prog 88 #[.pointer (some ⟨g0, o0, none⟩), .func (.func vf) #[] cb] w fun e w' => e = .returned (.tuple #[]) ∧ ∃ n S, R n S [] w' := by
 have HV := Lib.hid hV
 have HR := Lib.hid h
 obtain ⟨j0, hij, hy0, hy1, hy2⟩ := info_parts info_place
 obtain ⟨O, hmk, hown0⟩ : ∃ O, (∀ W, (Instr.makeSlice 182 (.int .i64 0) (.int .i64 60)).run Tryz.prog W = .ok (.slice (some ⟨W.heap.size, 0, none⟩) 0 60) (W.alloc O)) ∧ ∀ W : World, (W.alloc O).ownsRow W.heap.size 174 2 (.slice (some ⟨W.heap.size, 0, none⟩) 0 60) 0 [] := by
  refine ⟨.cells (madeCells (Value.agg #[.pointer none, .int .i64 0]).cells ((60 : Int).toNat * j0.size)) 174, fun W => ?_, fun W => ?_⟩
  ·exact run_make W _ _ _ _ Tryz.underlying182 hij hy0 .i64 .i64 0 60 (by omega) (by omega) (by rw [hy2]; omega) (by omega)
  ·exact World.ownsRow_made W _ 60 (Nat.le_refl _) (by unfold maxLen; omega) (by rw [size_madeCells, hy1]; rfl)
 have HOW := Lib.hid (hown0 w)
 clear hV h hown0
 go_enter Tryz.func88, Tryz.ntmps88
 have HB0 : Hid (Below w.heap.size w (w.alloc O)) := Lib.hid ((Below.refl _ _).alloc (Nat.le_refl _) _)
 have hsz0 : (w.alloc O).heap.size = w.heap.size + 1 := by simp
 go_wp2_with (at_builtin; refine wpList_append_d rfl _ _ _ rfl w.heap.size 174 j0 _ 2 16 Tryz.underlying182 hij hy0 hy1 hy2 rfl (by omega) w.heap.size 0 60 [] rfl (own_below HOW.out ((Below.refl _ _).alloc (Nat.le_refl _) _)) ⟨w.heap.size + 1, 0, none⟩ 1 1 [.pointer (some ⟨g0, o0, none⟩), .int .i64 1] rfl rfl (two_at _ _ _ _ _ (by simp)) (termx.two_one rfl rfl) (by unfold maxLen; omega) (by omega) (by simp; omega) ?_; intro g' cap' w1 hown1 hgr1 hg1 hlt1 hdr1)
 have hg2 : w.heap.size ≤ g' := by
  rcases hg1 with h | h
  ·omega
  ·rw [h]; simp; omega
 have HR1 : Hid (R n [g'] [(g0, o0, 1)] w1) := Lib.hid ((HV.out.keep HR.out (Chg.of_below ((HB0.out.alloc (by simp) _).grown hgr1 (by simp; omega) (by intro k hk; cases hk; exact Nat.le_refl _))) (fun k hk => by
  simp at hk; subst hk; exact ⟨.inr hg2, hlt1⟩)))
 have HO1 := Lib.hid hown1
 clear hown1 hgr1 hg1 hdr1 HB0 hsz0 hmk
 go_wp2
 go_loopg [4] n (fun gk v4 wr => ∃ (L : List Ent) (g k cap : Nat), v4 = .slice (some ⟨g, 0, none⟩) k cap ∧ Hid (k = L.length) ∧ Hid (R gk [g] L wr) ∧ Hid (wr.ownsRow w.heap.size 174 2 (.slice (some ⟨g, 0, none⟩) k cap) k (flatE L)))
 case atStart => exact ⟨[(g0, o0, 1)], g', 1, cap', rfl, Lib.hid rfl, HR1, HO1⟩
 case round =>
  obtain ⟨L, g, k, cap, rfl, HKL, HRW, HOWN⟩ := hrel
  cases L with
  | nil =>
   obtain rfl : k = 0 := HKL.out
   have HF : Hid (∃ n S, R n S [] wr) := Lib.hid ⟨_, _, HRW.out⟩
   go_wp2
   go_end0
   exact ⟨rfl, HF.out⟩
  | cons e L =>
   obtain ⟨k', rfl⟩ : ∃ k', k = k' + 1 := ⟨L.length, by have := HKL.out; simpa using this⟩
   have HK2 : Hid (k' = L.length) := Lib.hid (by have := HKL.out; simpa using this)
   obtain ⟨he1, he2, he3, he4, he5⟩ := HV.out.ent HRW.out
   obtain ⟨n', hn', hvis⟩ := HV.out.visit HRW.out
   obtain ⟨hbg, hgw, hkc⟩ := own_lt HOWN.out
   obtain ⟨ft1, ft2⟩ := flatE_top (p := e) HK2.out
   have s1 := (HOWN.out.cellAt (k' * 2) (by omega)).trans ft1
   have s2 := (HOWN.out.cellAt (k' * 2 + 1) (by omega)).trans ft2
   have hk5 : k' ≤ 1073741824 := by have := HK2.out; omega
   have HPO : Hid (wr.ownsRow w.heap.size 174 2 (.slice (some ⟨g, 0, none⟩) k' cap) k' (flatE L)) := Lib.hid (by
    have h := own_take HOWN.out (m := k') (by omega)
    rwa [flatE_pop HK2.out] at h)
   obtain ⟨ge, oe, de⟩ := e
   unfold ptr at s1
   simp only [] at s1 s2
   have HE2 := Lib.hid (And.intro he2 hn')
   simp only [] at he1 he3
   clear ft1 ft2 he2 hn' hvis
   obtain ⟨wo, hwo⟩ : ∃ wo, wo = wr := ⟨wr, rfl⟩
   subst hwo
   go_wp2_with fail
   have hbx : (wo.alloc (.cells #[.pointer (some ⟨ge, oe, none⟩), .int .i64 de] 174)).heap[wo.heap.size]? = some (.cells #[.pointer (some ⟨ge, oe, none⟩), .int .i64 de] 174 (0, 0)) := heap_at _ _ _ rfl
   have hb1 : Below wo.heap.size wo (wo.alloc (.cells #[.pointer (some ⟨ge, oe, none⟩), .int .i64 de] 174)) := (Below.refl _ _).alloc (Nat.le_refl _) _
   have hs1 : (wo.alloc (.cells #[.pointer (some ⟨ge, oe, none⟩), .int .i64 de] 174)).heap.size = wo.heap.size + 1 := by simp
   have HRV : Hid (R gk [g, wo.heap.size] ((ge, oe, de) :: L) (wo.alloc (.cells #[.pointer (some ⟨ge, oe, none⟩), .int .i64 de] 174))) := Lib.hid (HV.out.keep HRW.out (Chg.of_below hb1) (fun k hk => by
    simp at hk
    rcases hk with rfl | rfl
    ·exact ⟨.inl (by simp), by omega⟩
    ·exact ⟨.inr (Nat.le_refl _), by omega⟩))
   have HPO1 := Lib.hid (own_below HPO.out hb1)
   generalize wo.alloc (.cells #[.pointer (some ⟨ge, oe, none⟩), .int .i64 de] 174) = W1 at hbx hb1 hs1 HRV HPO1 ⊢
   obtain ⟨n', hn', hvis⟩ := HV.out.visit HRV.out
   refine hvis.mono ?_
   rintro ex w2 ⟨b, rfl, hsz2, hsame, hcase⟩
   have hg2 : w2.heap[g]? = W1.heap[g]? := hsame g (by simp) (by omega)
   have hx2 : w2.heap[wo.heap.size]? = some (.cells #[.pointer (some ⟨ge, oe, none⟩), .int .i64 de] 174 (0, 0)) := by rw [hsame wo.heap.size (by simp) (by omega)]; exact hbx
   have b0 : w2.cell? ⟨wo.heap.size, 0, none⟩ = some (.pointer (some ⟨ge, oe, none⟩)) := cell_of_row w2 _ 0 _ _ _ hx2
   have b1 : w2.cell? ⟨wo.heap.size, 1, none⟩ = some (.int .i64 de) := cell_of_row w2 _ 1 _ _ _ hx2
   have HPO2 := Lib.hid (own_same HPO1.out hg2)
   have hszx : wo.heap.size < w2.heap.size := by omega
   have hgw2 : g < w2.heap.size := by omega
   have hge2 : ge < w2.heap.size := by omega
   have HGE : Hid (ge ≠ g ∧ ge ≠ wo.heap.size ∧ gk = n' + 1) := Lib.hid ⟨fun h => HE2.out.1 (by rw [h]; simp), by omega, hn'⟩
   have hbase : w.heap.size ≤ w2.heap.size := by omega
   clear hbx hb1 hs1 HRV HPO1 hsz2 hsame hg2 hx2 HPO HE2 hvis hn' s1 s2
   rcases hcase with ⟨rfl, hRf⟩ | ⟨rfl, A, m, c, hcl, hm30, hmc, g1, o1, hA, hRt⟩
   ·have HRF : Hid (R n' [g] L w2) := Lib.hid (HV.out.keep hRf (Chg.refl _ _) (fun k hk => by simp at hk; subst hk; exact ⟨.inl (by simp), hgw2⟩))
    clear hRf
    go_wp2
    go_roundg n'
    case measure => have := HGE.out; omega
    case rel => exact ⟨L, g, k', cap, rfl, HK2, HRF, HPO2⟩
   ·have HRT := Lib.hid hRt
    have HA := Lib.hid hA
    clear hRt hA
    go_wp2
    go_loopw [4, 36] (fun v4 v36 wr => ∃ (j g5 k5 cap5 : Nat), v4 = .slice (some ⟨g5, 0, none⟩) k5 cap5 ∧ v36 = .int .i64 j ∧ j ≤ m ∧ k5 = j + k' ∧ Hid (R n' [g5, wo.heap.size] (kids g1 o1 (de + 1) m ++ L) wr) ∧ Hid (wr.ownsRow w.heap.size 174 2 (.slice (some ⟨g5, 0, none⟩) k5 cap5) k5 (flatE (kids g1 o1 (de + 1) j ++ L))) ∧
      wr.cell? ⟨wo.heap.size, 0, none⟩ = some (.pointer (some ⟨ge, oe, none⟩)) ∧ wr.cell? ⟨wo.heap.size, 1, none⟩ = some (.int .i64 de) ∧ wr.cell? ⟨ge, oe + 3, none⟩ = some (.slice A m c) ∧ w2.heap.size ≤ wr.heap.size ∧ Hid (g5 ≠ wo.heap.size ∧ g5 ≠ ge)) (fun _ i _ => m - (intOf i).toNat)
    case atStart => exact ⟨0, g, k', cap, rfl, rfl, Nat.zero_le _, by omega, HRT, HPO2, b0, b1, hcl, Nat.le_refl _, Lib.hid ⟨by omega, fun h => HGE.out.1 h.symm⟩⟩
    case round =>
     clear b0 b1 hcl
     obtain ⟨j, g5, k5, cap5, rfl, rfl, hj, rfl, HRJ, HOJ, b0, b1, hcl, hszj, HNE⟩ := hrel
     obtain ⟨hbg5, hgw5, hkc5⟩ := own_lt HOJ.out
     by_cases hlt : j < m
     ·have hAA := HA.out (by omega)
      subst hAA
      have hxr : wo.heap.size < wr.heap.size := by omega
      have hger : ge < wr.heap.size := by omega
      have hbr : w.heap.size ≤ wr.heap.size := by omega
      have hi1 : (0 : Int) ≤ (j : Int) := by omega
      have hi2 : (j : Int) < (m : Int) := by omega
      go_wp2_with fail
      go_region_held3 (fun w' => (w'.cell? ⟨wo.heap.size, 0, none⟩ = some (.pointer (some ⟨ge, oe, none⟩)) ∧ w'.cell? ⟨wo.heap.size, 1, none⟩ = some (.int .i64 de) ∧ w'.cell? ⟨ge, oe + 3, none⟩ = some (.slice (some ⟨g1, o1, none⟩) m c)) ∧ Chg [g5] wr w')
       (first | assumption | (refine ⟨⟨?_, ?_, ?_⟩, Chg.of_below (Below.refl _ _).drew⟩ <;> assumption) | (go_split_ands; exact keep_far ⟨⟨by assumption, by assumption, by assumption⟩, by assumption⟩ hxr hger ((Below.refl _ _).alloc (Nat.le_refl _) _)))
       ((refine step_append_d (by rfl) _ _ _ (by rfl) w.heap.size 174 j0 _ 2 16 Tryz.underlying182 hij hy0 hy1 hy2 rfl (by omega) g5 (j + k') cap5 (flatE (kids g1 o1 (de + 1) j ++ L)) (by rfl) (own_below HOJ.out ((Below.refl _ _).alloc (Nat.le_refl _) _).drew) ⟨_, 0, none⟩ 1 1 [.pointer (some ⟨g1, o1 + j * 4, none⟩), .int .i64 (IntKind.i64.wrap ((de : Int) + 1))] (by rfl) (by rfl) (fun q x hq => termx.two_cells wr _ _ _ q x hq) (termx.two_one rfl rfl) (by unfold maxLen; omega) (by omega) (by simp; omega) ?_; intro g4 cap4 w4 hown4 hgr4 hg4 hlt4 hdr4; have hS4 := app_far hgr4 (by go_split_ands; exact ⟨by assumption, by assumption, by assumption⟩) (by go_split_ands; assumption) HNE.out hxr hger))
      all_goals
       have hck : Chg [g5] wr w4 := hS4.2
       have hz4 := hck.size
       have HO4 : Hid (w4.ownsRow w.heap.size 174 2 (.slice (some ⟨g4, 0, none⟩) (j + k' + 1) cap4) (j + k' + 1) (flatE (kids g1 o1 (de + 1) (j + 1) ++ L))) := Lib.hid (by
        have hwr : IntKind.i64.wrap ((de : Int) + 1) = ((de + 1 : Nat) : Int) := by simp only [IntKind.wrap, IntKind.bits, IntKind.signed]; simp; omega
        rw [hwr] at hown4
        exact hown4)
       have HR4 : Hid (R n' [g4, wo.heap.size] (kids g1 o1 (de + 1) m ++ L) w4) := Lib.hid (HV.out.keep HRJ.out (hck.mono (fun q hq => by simp at hq; subst hq; simp)) (fun q hq => by
        simp at hq
        rcases hq with rfl | rfl
        ·refine ⟨?_, hlt4⟩
         rcases hg4 with h | h
         ·exact .inl (by rw [h]; simp)
         ·exact .inr (by rw [h]; simp)
        ·exact ⟨.inl (by simp), by omega⟩))
       have HN4 : Hid (g4 ≠ wo.heap.size ∧ g4 ≠ ge) := Lib.hid (by
        rcases hg4 with h | h
        ·rw [h]; exact HNE.out
        ·rw [h]; simp; omega)
       obtain ⟨⟨c0, c1, c2⟩, _⟩ := hS4
       clear hown4 hgr4 hg4 hck hdr4
       go_wp2
       go_roundw
       case rel => exact ⟨j + 1, g4, j + k' + 1, cap4, rfl, by go_num, by omega, by omega, HR4, HO4, c0, c1, c2, by omega, HN4⟩
       case measure => simp [intOf]; omega
     ·obtain rfl : j = m := by omega
      have HRN : Hid (R n' [g5] (kids g1 o1 (de + 1) j ++ L) wr) := Lib.hid (HV.out.keep HRJ.out (Chg.refl _ _) (fun q hq => by simp at hq; subst hq; exact ⟨.inl (by simp), hgw5⟩))
      have HKN : Hid (j + k' = (kids g1 o1 (de + 1) j ++ L).length) := Lib.hid (by rw [List.length_append, kids_len, ← HK2.out])
      go_wp2
      go_roundg n'
      case measure => have := HGE.out; omega
      case rel => exact ⟨kids g1 o1 (de + 1) j ++ L, g5, j + k', cap5, rfl, HKN, HRN, HOJ⟩
end Go.Proofs.YtkkmjaggebjcbaaGreat.termz
/-
 WALKS THAT LEAVE THE TREE AS IT IS: what is asked of the function at the nodes, in terms of the tree alone.
-/
namespace Go.Proofs.YtkkmjaggebjcbaaGreat.termro
open Go.ChangeShapes Go.WideShapes Go.ChangeAt Go.RowKit
open mem dec rowl trm trmv terml termb termt termx termz

/-- pending terms with their depths -/
abbrev Pend := List (TermM × Nat)
noncomputable def sizeP : Pend → Nat
 | [] => 0
 | p :: T => size p.1 + sizeP T
/-- the node at this place reads as this term -/
def EntOk (N lo : Nat) (W : World) (e : Ent) (p : TermM × Nat) : Prop := e.2.2 = p.2 ∧ p.2 + depth p.1 ≤ 1073741824 ∧ e.1 < W.heap.size ∧ W.cell? ⟨e.1, e.2.1, none⟩ = some (.int .i64 p.1.op) ∧ W.cell? ⟨e.1, e.2.1 + 1, none⟩ = some (.string (bstr p.1.name)) ∧
 W.cell? ⟨e.1, e.2.1 + 2, none⟩ = some (.int .i64 p.1.sort) ∧ ∃ v, W.cell? ⟨e.1, e.2.1 + 3, none⟩ = some v ∧ HasTs N lo W v p.1.args ∧ Bnd p.1
def AllE (Q : Ent → TermM × Nat → Prop) : List Ent → Pend → Prop
 | [], [] => True
 | e :: L, p :: T => Q e p ∧ AllE Q L T
 | _, _ => False
theorem AllE.append {Q : Ent → TermM × Nat → Prop} : ∀ {L M : List Ent} {T U : Pend}, AllE Q L T → AllE Q M U → AllE Q (L ++ M) (T ++ U)
 | [], _, [], _, _, h => h
 | _ :: _, _, _ :: _, _, ⟨a, b⟩, h => ⟨a, AllE.append b h⟩
 | [], _, _ :: _, _, h, _ => h.elim
 | _ :: _, _, [], _, h, _ => h.elim
theorem AllE.len {Q : Ent → TermM × Nat → Prop} : ∀ {L : List Ent} {T : Pend}, AllE Q L T → L.length = T.length
 | [], [], _ => rfl
 | _ :: _, _ :: _, ⟨_, b⟩ => by rw [List.length_cons, List.length_cons, AllE.len b]
 | [], _ :: _, h => h.elim
 | _ :: _, [], h => h.elim
/-- the arguments of a node, the last one first -/
def kidsP (t : TermM) (d : Nat) : Pend := (t.args.map fun a => (a, d + 1)).reverse
theorem sizeP_append : ∀ T U : Pend, sizeP (T ++ U) = sizeP T + sizeP U
 | [], U => by simp [sizeP]
 | p :: T, U => by simp only [List.cons_append, sizeP, sizeP_append T U]; omega
theorem sizeP_kids (t : TermM) (d : Nat) : sizeP (kidsP t d) = sizes t.args := by
 unfold kidsP
 induction t.args with
 | nil => rfl
 | cons a l ih => rw [List.map_cons, List.reverse_cons, sizeP_append, ih]; simp only [sizeP, sizes, List.map_cons, List.sum_cons]; omega
theorem size_eq (t : TermM) : size t = 1 + sizes t.args := by cases t; exact size_mk _ _ _ _
theorem depth_eq (t : TermM) : depth t = depths t.args + 1 := by cases t; exact depth_mk _ _ _ _
theorem depth_mem {l : List TermM} {a : TermM} (h : a ∈ l) : depth a ≤ depths l := by
 induction l with
 | nil => simp at h
 | cons b l ih =>
  have e : depths (b :: l) = max (depth b) (depths l) := rfl
  rcases List.mem_cons.1 h with rfl | h
  ·omega
  ·have := ih h; omega
theorem length_le_sizeP : ∀ T : Pend, T.length ≤ sizeP T
 | [] => Nat.le_refl _
 | p :: T => by have := length_le_sizeP T; have := size_pos p.1; simp only [List.length_cons, sizeP]; omega
theorem allE_kids {N lo : Nat} {W : World} {A : Option Addr} {m c : Nat} {l : List TermM} {d : Nat} (h : HasTs N lo W (.slice A m c) l) (hd : d + 1 + depths l ≤ 1073741824) :
  ∃ g o, (m ≠ 0 → A = some ⟨g, o, none⟩) ∧ AllE (EntOk N lo W) (kids g o (d + 1) m) ((l.map fun a => (a, d + 1)).reverse) := by
 have hm := h.len.1
 by_cases h0 : m = 0
 ·subst h0
  have : l = [] := List.eq_nil_of_length_eq_zero hm.symm
  subst this
  exact ⟨0, 0, fun h => absurd rfl h, trivial⟩
 ·obtain ⟨k, g, o, A2, c2, hk, rfl, _⟩ := term_at h (j := 0) (by omega)
  refine ⟨g, o, fun _ => rfl, ?_⟩
  have key : ∀ q, q ≤ m → AllE (EntOk N lo W) (kids g o (d + 1) q) (((l.take q).map fun a => (a, d + 1)).reverse) := by
   intro q
   induction q with
   | zero => intro _; simp [kids, AllE]
   | succ q ih =>
    intro hq
    obtain ⟨k', g', o', A3, c3, hk', eA, _, hg', c0, c1, c2', c3', hh, hb⟩ := term_at h (j := q) (by omega)
    simp only [Option.some.injEq, Addr.mk.injEq, and_true] at eA
    obtain ⟨rfl, rfl⟩ := eA
    have hql : q < l.length := by omega
    rw [List.take_succ_eq_append_getElem hql, List.map_append, List.reverse_append]
    simp only [List.map_cons, List.map_nil, List.reverse_cons, List.reverse_nil, List.nil_append, List.singleton_append]
    rw [← getD_at hql]
    have hmem : l.getD q default ∈ l := by rw [getD_at hql]; exact List.getElem_mem hql
    have hdd := depth_mem hmem
    exact ⟨⟨rfl, by simp only []; omega, hg', c0, c1, c2', _, c3', hh.up (by omega), hb⟩, ih (by omega)⟩
  have := key m (Nat.le_refl _)
  rwa [List.take_of_length_le (by omega)] at this
/-- the function's own state: J T F w: the terms T are pending, its own blocks are F -/
structure ROState (J : Pend → List Nat → World → Prop) : Prop where
 same : ∀ {T : Pend} {F : List Nat} {w w' : World}, J T F w → (∀ k ∈ F, w'.heap[k]? = w.heap[k]?) → J T F w'
 lt : ∀ {T : Pend} {F : List Nat} {w : World}, J T F w → ∀ k ∈ F, k < w.heap.size
end Go.Proofs.YtkkmjaggebjcbaaGreat.termro
/-
 TREES WITHIN THE LIMITS, AND CONDITIONS AT ALL NODES: mathematics alone.
-/
namespace Go.Proofs.YtkkmjaggebjcbaaGreat.frm
open trm trmv terml termro

/-- R at all nodes -/
def allN (R : TermM → Prop) (t : TermM) : Prop :=
 TermM.rec (motive_1 := fun _ => Prop) (motive_2 := fun _ => Prop) (fun o n s l h => R (.mk o n s l) ∧ h) True (fun _ _ p q => p ∧ q) t
theorem allN_mk (R : TermM → Prop) (o : Int) (n : List UInt8) (s : Int) (l : List TermM) : allN R (.mk o n s l) ↔ R (.mk o n s l) ∧ ∀ a ∈ l, allN R a := by
 have : ∀ l : List TermM, (TermM.rec_1 (motive_1 := fun _ => Prop) (motive_2 := fun _ => Prop) (fun o n s l h => R (.mk o n s l) ∧ h) True (fun _ _ p q => p ∧ q) l : Prop) ↔ ∀ a ∈ l, allN R a := by
  intro l
  induction l with
  | nil => simp
  | cons a l ih =>
   rw [List.forall_mem_cons, ← ih]
   rfl
 rw [← this]
 rfl
theorem allN_eta (R : TermM → Prop) (t : TermM) : allN R t ↔ R t ∧ ∀ a ∈ t.args, allN R a := by cases t; exact allN_mk _ _ _ _ _
abbrev wide : TermM → Prop := allN fun t => t.args.length ≤ 7
def LimT (t : TermM) : Prop := size t ≤ 60 ∧ depth t ≤ 20 ∧ wide t
/-- what the pending nodes must still meet -/
def LimP (T : Pend) : Prop := ∀ p ∈ T, p.2 - 1 + depth p.1 ≤ 20 ∧ wide p.1
theorem depths_le {l : List TermM} {k : Nat} : depths l ≤ k ↔ ∀ a ∈ l, depth a ≤ k := by
 induction l with
 | nil => simp [depths]
 | cons a l ih =>
  have e : depths (a :: l) = max (depth a) (depths l) := rfl
  rw [e, List.forall_mem_cons, ← ih]
  omega
theorem limP_kids {t : TermM} {d : Nat} {T : Pend} (h1 : 1 ≤ d) (h2 : d ≤ 20) (h3 : t.args.length ≤ 7) : LimP ((t, d) :: T) ↔ LimP (kidsP t d ++ T) := by
 unfold LimP
 rw [List.forall_mem_cons, List.forall_mem_append]
 refine and_congr ?_ Iff.rfl
 have e : (∀ p ∈ kidsP t d, p.2 - 1 + depth p.1 ≤ 20 ∧ wide p.1) ↔ ∀ a ∈ t.args, d + depth a ≤ 20 ∧ wide a := by
  unfold kidsP
  simp only [List.mem_reverse, List.mem_map]
  constructor
  ·intro h a ha; exact h _ ⟨a, ha, rfl⟩
  ·rintro h _ ⟨a, ha, rfl⟩; exact h a ha
 rw [e]
 have hd := depth_eq t
 show d - 1 + depth t ≤ 20 ∧ wide t ↔ _
 unfold wide
 rw [allN_eta, hd]
 constructor
 ·rintro ⟨q1, _, q2⟩ a ha
  have := depth_mem ha
  exact ⟨by omega, q2 a ha⟩
 ·intro h
  refine ⟨?_, h3, fun a ha => (h a ha).2⟩
  have : depths t.args ≤ 20 - d := depths_le.2 (fun a ha => by have := (h a ha).1; omega)
  omega
theorem limP_no {t : TermM} {d : Nat} {T : Pend} (h : ¬ (d ≤ 20 ∧ t.args.length ≤ 7)) : ¬ LimP ((t, d) :: T) := by
 intro hp
 obtain ⟨q1, q2⟩ := hp (t, d) (by simp)
 have hd := depth_eq t
 have q1' : d - 1 + depth t ≤ 20 := q1
 have q3 := ((allN_eta _ t).1 q2).1
 exact h ⟨by omega, q3⟩
end Go.Proofs.YtkkmjaggebjcbaaGreat.frm
/-
 THE MODEL's LIMITS: l6Left, l6Small.
-/
namespace Go.Proofs.YtkkmjaggebjcbaaGreat.formlf
open Go.ChangeShapes Go.WideShapes Go.ChangeAt Go.RowKit
open mem dec rowl trm trmv terml termb termt termu termv termx

/-- what is left of x when m nodes are taken from it -/
def leftZ (x : Int) (m : Nat) : Int := if (m : Int) ≤ x then x - m else -1
theorem leftZ_add {x : Int} {a b : Nat} (h : 0 ≤ leftZ x a) : leftZ (leftZ x a) b = leftZ x (a + b) := by
 unfold leftZ at h ⊢
 split at h
 ·rename_i h1
  rw [if_pos h1]
  split <;> split <;> omega
 ·omega
theorem leftZ_neg {x : Int} {a b : Nat} (h : ¬ 0 ≤ leftZ x a) (hab : a ≤ b) : leftZ x a = leftZ x b := by
 unfold leftZ at h ⊢
 split at h
 ·omega
 ·rename_i h1
  rw [if_neg h1, if_neg (by omega)]
theorem leftZ_lo (x : Int) (m : Nat) : -1 ≤ leftZ x m := by unfold leftZ; split <;> omega
theorem leftZ_hi {x : Int} (hx : 0 ≤ x) (m : Nat) : leftZ x m ≤ x := by unfold leftZ; split <;> omega
theorem leftZ_pos {x : Int} (m : Nat) : 0 ≤ leftZ x m ↔ (m : Int) ≤ x := by unfold leftZ; split <;> omega
theorem sizes_take_le (L : List TermM) (k : Nat) : sizes (L.take k) ≤ sizes L := by
 induction L generalizing k with
 | nil => simp
 | cons a l ih =>
  cases k with
  | zero => exact Nat.zero_le _
  | succ k =>
   have := ih k
   show size a + sizes (l.take k) ≤ size a + sizes l
   omega
/-- spec.l6Left, at arguments of at most this depth -/
def LeftT (n : Nat) : Prop := ∀ (op : Int) (l : List UInt8) (s : Int) (L : List TermM) (v : Value) (w : World) (lo : Nat) (x : Int), HasTs n lo w v L → 0 ≤ x → x ≤ 60 →
 Calls Tryz.prog 69 #[.agg #[.int .i64 op, .string (bstr l), .int .i64 s, v], .int .i64 x] w fun e w' => e = .returned (.int .i64 (leftZ x (1 + sizes L))) ∧ Below w.heap.size w w'
theorem leftT_step {n : Nat} (hS : ∀ k, n = k + 1 → LeftT k) : LeftT n := by
 intro op l s L v w lo x h hx0 hx60
 obtain ⟨N, hN⟩ : ∃ N, N = L.length := ⟨_, rfl⟩
 obtain ⟨A, c, rfl, h⟩ := HasR.shape h hN.symm
 have hNl := h.len.2.1
 have HN := Lib.hid hN
 have HH := Lib.hid h
 have HS := Lib.hid hS
 have hw : IntKind.i64.wrap (x - 1) = x - 1 := IntWalk.i64_in _ (by omega)
 clear h hN hS
 go_enter Tryz.func69, Tryz.ntmps69
 go_wp2
 generalize hW : w.alloc (.cells #[.int .i64 op, .string (bstr l), .int .i64 s, .slice A N c] 34) = W
 have hb0 : Below w.heap.size w W := by rw [← hW]; exact (Below.refl _ _).alloc (Nat.le_refl _) _
 have hlt0 : w.heap.size < W.heap.size := by rw [← hW]; simp
 have hbox : W.cell? ⟨w.heap.size, 3, none⟩ = some (.slice A N c) := by rw [← hW]; simp
 clear hW hw
 go_loopw [1, 5] (fun v i wr => ∃ (k : Nat) (z : Int), k ≤ N ∧ i = .int .i64 k ∧ v = .int .i64 z ∧ Hid (z = leftZ x (1 + sizes (L.take k))) ∧ -1 ≤ z ∧ z ≤ 60 ∧ Below W.heap.size W wr) (fun _ i _ => N - (intOf i).toNat)
 case atStart => exact ⟨0, x - 1, Nat.zero_le _, rfl, rfl, Lib.hid (by show x - 1 = leftZ x (1 + 0); unfold leftZ; split <;> omega), by omega, by omega, Below.refl _ _⟩
 case round =>
  obtain ⟨k, z, hk, rfl, rfl, HZ, hz1, hz2, hbel⟩ := hrel
  have hbx : wr.cell? ⟨w.heap.size, 3, none⟩ = some (.slice A N c) := (hbel.cell (p := ⟨w.heap.size, 3, none⟩) hlt0).trans hbox
  by_cases hlt : k < N
  ·by_cases hz : 0 ≤ z
   ·have d1 : decide ((k : Int) < (N : Int)) = true := decide_eq_true (by omega)
    have d2 : decide ((0 : Int) ≤ z) = true := decide_eq_true hz
    have hlt2 : k < L.length := by have := HN.out; omega
    have hbw : Below w.heap.size w wr := hb0.trans (hbel.mono (Nat.le_of_lt hlt0))
    obtain ⟨k', g, o, A2, c2, hnk, rfl, _, hg, hc0, hc1, hc2, hc3, hh, _⟩ := term_at HH.out hlt
    rw [← hbw.cell (p := ⟨g, o + k * 4, none⟩) hg] at hc0
    rw [← hbw.cell (p := ⟨g, o + k * 4 + 1, none⟩) hg] at hc1
    rw [← hbw.cell (p := ⟨g, o + k * 4 + 2, none⟩) hg] at hc2
    rw [← hbw.cell (p := ⟨g, o + k * 4 + 3, none⟩) hg] at hc3
    have hh2 := hh.below (Nat.le_refl _) hbw
    have hst : sizes (L.take (k + 1)) = sizes (L.take k) + size (L.getD k default) := sizes_take hlt2
    obtain ⟨t, ht⟩ : ∃ t, t = L.getD k default := ⟨_, rfl⟩
    rw [← ht] at hc0 hc1 hc2 hc3 hh2 hst
    have hsz2 : size t = 1 + sizes t.args := size_eq t
    have HT := Lib.hid (HS.out k' hnk t.op t.name t.sort t.args _ wr lo z hh2 hz hz2)
    rw [← hsz2] at HT
    obtain ⟨q, hq⟩ : ∃ q, q = t.args.length := ⟨_, rfl⟩
    rw [← hq] at hc3 HT
    obtain ⟨z', hz'⟩ : ∃ z', z' = leftZ z (size t) := ⟨_, rfl⟩
    rw [← hz'] at HT
    have hz3 : -1 ≤ z' := by rw [hz']; exact leftZ_lo _ _
    have hz4 : z' ≤ 60 := by rw [hz']; have := leftZ_hi hz (size t); omega
    have HST : Hid (z' = leftZ x (1 + sizes (L.take (k + 1)))) := Lib.hid (by
     rw [hz', hst]
     have h1 := HZ.out
     rw [h1, leftZ_add (by rw [← h1]; exact hz), Nat.add_assoc])
    have i1 : (0 : Int) ≤ (k : Int) := by omega
    have i2 : (k : Int) < (N : Int) := by omega
    clear hh hh2 hq ht hz' hsz2 hst
    go_wp2_with fail
    refine HT.out.mono ?_
    rintro e w2 ⟨rfl, hb2⟩
    have hbw2 := hbel.trans (hb2.mono hbel.size)
    clear hb2
    go_wp2
    go_roundw
    case rel => exact ⟨k + 1, z', by omega, by go_num, rfl, HST, hz3, hz4, hbw2⟩
    case measure => simp [intOf]; omega
   ·have d1 : decide ((k : Int) < (N : Int)) = true := decide_eq_true (by omega)
    have d2 : decide ((0 : Int) ≤ z) = false := decide_eq_false hz
    have HE : Hid (z = leftZ x (1 + sizes L)) := Lib.hid (by
     have h1 := HZ.out
     have := sizes_take_le L k
     rw [h1, leftZ_neg (b := 1 + sizes L) (by rw [← h1]; exact hz) (by omega)])
    have hb3 : Below w.heap.size w wr := hb0.trans (hbel.mono (Nat.le_of_lt hlt0))
    go_wp2
    go_ret
    exact ⟨ret_int (by rw [← HE.out]), hb3⟩
  ·have d1 : decide ((k : Int) < (N : Int)) = false := decide_eq_false (by omega)
   have HE : Hid (z = leftZ x (1 + sizes L)) := Lib.hid (by
    have h1 := HZ.out
    rw [List.take_of_length_le (by have := HN.out; omega)] at h1
    exact h1)
   have hb3 : Below w.heap.size w wr := hb0.trans (hbel.mono (Nat.le_of_lt hlt0))
   go_wp2
   go_ret
   exact ⟨ret_int (by rw [← HE.out]), hb3⟩
theorem left_all : ∀ n, LeftT n
 | 0 => leftT_step (fun k h => by omega)
 | n + 1 => leftT_step (fun k h => Nat.succ.inj h ▸ left_all n)
/-- spec.l6Small -/
theorem small_any {n lo : Nat} (t : TermM) (v : Value) (w : World) (h : HasTs n lo w v t.args) (hs : sizes t.args ≤ 1048576) :
  Calls Tryz.prog 33 #[aggT t v] w fun e w' => ∃ r, e = .returned (.bool r) ∧ (r = true ↔ size t ≤ 60 ∧ depth t ≤ 20) ∧ Below w.heap.size w w' := by
 obtain ⟨A, c, rfl, h⟩ := HasR.shape h rfl
 have hb0 : Below w.heap.size w (w.alloc (.cells #[.int .i64 t.op, .string (bstr t.name), .int .i64 t.sort, .slice A t.args.length c] 34)) := (Below.refl _ _).alloc (Nat.le_refl _) _
 have HB0 := Lib.hid hb0
 have HL := Lib.hid (left_all n t.op t.name t.sort t.args _ _ lo 60 (h.below (Nat.le_refl _) hb0) (by omega) (by omega))
 have HD : Hid (∀ W, Below w.heap.size w W → Calls Tryz.prog 70 #[.agg #[.int .i64 t.op, .string (bstr t.name), .int .i64 t.sort, .slice A t.args.length c]] W fun e w' => e = .returned (.int .i64 ((depth t : Nat) : Int)) ∧ Below W.heap.size W w') := Lib.hid (fun W hW => by
  rw [depth_eq]
  exact depthOf_all n t.op t.name t.sort t.args _ W lo (h.below (Nat.le_refl _) hW) hs)
 have hp : 0 ≤ leftZ 60 (1 + sizes t.args) ↔ size t ≤ 60 := by rw [leftZ_pos, size_eq]; omega
 have hlo := leftZ_lo 60 (1 + sizes t.args)
 obtain ⟨z, hz⟩ : ∃ z, z = leftZ 60 (1 + sizes t.args) := ⟨_, rfl⟩
 rw [← hz] at HL hp hlo
 obtain ⟨q, hq⟩ : ∃ q, q = t.args.length := ⟨_, rfl⟩
 obtain ⟨to, hto⟩ : ∃ q, q = t.op := ⟨_, rfl⟩
 obtain ⟨tn, htn⟩ : ∃ q, q = t.name := ⟨_, rfl⟩
 obtain ⟨ts, hts⟩ : ∃ q, q = t.sort := ⟨_, rfl⟩
 obtain ⟨d, hd⟩ : ∃ q, q = depth t := ⟨_, rfl⟩
 unfold aggT
 rw [← hq, ← hto, ← htn, ← hts] at HL HB0 HD ⊢
 rw [← hd] at HD ⊢
 obtain ⟨sz, hsz⟩ : ∃ q, q = size t := ⟨_, rfl⟩
 rw [← hsz] at hp ⊢
 have HP := Lib.hid hp
 clear h hs hb0 hz hq hto htn hts hd hsz
 by_cases h0 : 0 ≤ z
 ·have d1 : decide ((0 : Int) ≤ z) = true := decide_eq_true h0
  by_cases h1 : d ≤ 20
  ·have d2 : decide ((d : Int) ≤ 20) = true := decide_eq_true (by omega)
   have HF : Hid (true = true ↔ sz ≤ 60 ∧ d ≤ 20) := Lib.hid ⟨fun _ => ⟨hp.1 h0, h1⟩, fun _ => rfl⟩
   clear hp h1
   go_enter Tryz.func33, Tryz.ntmps33
   go_wp2_with fail
   refine HL.out.mono ?_
   rintro e w1 ⟨rfl, hb1⟩
   have HB1 := Lib.hid (HB0.out.trans (hb1.mono HB0.out.size))
   have x0 := cell_of_row _ _ 0 _ _ _ ((hb1.block w.heap.size (by simp)).trans (heap_at _ _ _ rfl))
   have x1 := cell_of_row _ _ 1 _ _ _ ((hb1.block w.heap.size (by simp)).trans (heap_at _ _ _ rfl))
   have x2 := cell_of_row _ _ 2 _ _ _ ((hb1.block w.heap.size (by simp)).trans (heap_at _ _ _ rfl))
   have x3 := cell_of_row _ _ 3 _ _ _ ((hb1.block w.heap.size (by simp)).trans (heap_at _ _ _ rfl))
   clear hb1
   go_wp2_with fail
   refine (HD.out _ HB1.out).mono ?_
   rintro e w2 ⟨rfl, hb2⟩
   have HB2 := Lib.hid (HB1.out.trans (hb2.mono HB1.out.size))
   clear hb2 x0 x1 x2 x3
   go_wp2
   go_ret
   exact ⟨true, rfl, ⟨fun _ => HF.out.1 (by first | rfl | trivial), fun _ => rfl⟩, HB2.out⟩
  ·have d2 : decide ((d : Int) ≤ 20) = false := decide_eq_false (by omega)
   have HF : Hid (false = true ↔ sz ≤ 60 ∧ d ≤ 20) := Lib.hid ⟨(fun e => by cases e), fun e => absurd e.2 h1⟩
   clear hp h1
   go_enter Tryz.func33, Tryz.ntmps33
   go_wp2_with fail
   refine HL.out.mono ?_
   rintro e w1 ⟨rfl, hb1⟩
   have HB1 := Lib.hid (HB0.out.trans (hb1.mono HB0.out.size))
   have x0 := cell_of_row _ _ 0 _ _ _ ((hb1.block w.heap.size (by simp)).trans (heap_at _ _ _ rfl))
   have x1 := cell_of_row _ _ 1 _ _ _ ((hb1.block w.heap.size (by simp)).trans (heap_at _ _ _ rfl))
   have x2 := cell_of_row _ _ 2 _ _ _ ((hb1.block w.heap.size (by simp)).trans (heap_at _ _ _ rfl))
   have x3 := cell_of_row _ _ 3 _ _ _ ((hb1.block w.heap.size (by simp)).trans (heap_at _ _ _ rfl))
   clear hb1
   go_wp2_with fail
   refine (HD.out _ HB1.out).mono ?_
   rintro e w2 ⟨rfl, hb2⟩
   have HB2 := Lib.hid (HB1.out.trans (hb2.mono HB1.out.size))
   clear hb2 x0 x1 x2 x3
   go_wp2
   go_ret
   exact ⟨false, rfl, HF.out, HB2.out⟩
 ·have d1 : decide ((0 : Int) ≤ z) = false := decide_eq_false h0
  have HF : Hid (false = true ↔ sz ≤ 60 ∧ d ≤ 20) := Lib.hid ⟨(fun e => by cases e), fun e => absurd (hp.2 e.1) h0⟩
  clear hp HD
  go_enter Tryz.func33, Tryz.ntmps33
  go_wp2_with fail
  refine HL.out.mono ?_
  rintro e w1 ⟨rfl, hb1⟩
  have HB1 := Lib.hid (HB0.out.trans (hb1.mono HB0.out.size))
  clear hb1
  go_wp2
  go_ret
  exact ⟨false, rfl, HF.out, HB1.out⟩
end Go.Proofs.YtkkmjaggebjcbaaGreat.formlf
/-
 CONTRACTS OF THE MODEL'S l5Same AND OccursIn, AND OF THE LAWS' same.
-/
namespace Go.Proofs.YtkkmjaggebjcbaaGreat.termvo
open Go.ChangeShapes Go.WideShapes Go.ChangeAt Go.RowKit
open mem dec rowl trm trmv terml termb termt termu termv
open termx (aggT)

/-- spec.l5Same -/
theorem same_any {n m : Nat} (t u : TermM) (va vb : Value) (w : World) {lo lo' : Nat} (ha : HasTs n lo w va t.args) (hb : HasTs m lo' w vb u.args) (r : Bool) (hr : decide (cmp t u = 0) = r) :
  Calls Tryz.prog 49 #[aggT t va, aggT u vb] w fun e w' => e = .returned (.bool r) ∧ Below w.heap.size w w' := by
 obtain ⟨A, ca, rfl, _⟩ := HasR.shape ha rfl
 obtain ⟨B, cb, rfl, _⟩ := HasR.shape hb rfl
 have HL := Lib.hid (fun W (hW : Below w.heap.size w W) => scmp_any t u _ _ W (ha.below (Nat.le_refl _) hW) (hb.below (Nat.le_refl _) hW))
 obtain ⟨c, hc⟩ : ∃ c, c = cmp t u := ⟨_, rfl⟩
 rw [← hc] at hr HL
 unfold aggT
 obtain ⟨k, hk⟩ : ∃ k, k = t.args.length := ⟨_, rfl⟩
 obtain ⟨m, hm⟩ : ∃ m, m = u.args.length := ⟨_, rfl⟩
 rw [← hk] at HL ⊢
 rw [← hm] at HL ⊢
 have HRB : Hid (r = (c == 0)) := Lib.hid (by rw [← hr, Bool.eq_iff_iff]; simp)
 clear ha hb hc hk hm hr
 go_enter Tryz.func49, Tryz.ntmps49
 go_wp2_with fail
 have hgb : Below w.heap.size w ((w.alloc (.cells #[.int .i64 t.op, .string (bstr t.name), .int .i64 t.sort, .slice A k ca] 34)).alloc (.cells #[.int .i64 u.op, .string (bstr u.name), .int .i64 u.sort, .slice B m cb] 34)) := ((Below.refl _ _).alloc (Nat.le_refl _) _).alloc (by simp) _
 refine (HL.out _ hgb).mono ?_
 rintro e w2 ⟨rfl, hb2⟩
 have hgb2 := hgb.trans (hb2.mono hgb.size)
 clear hb2 hgb
 go_wp2
 go_ret
 exact ⟨ret_bool HRB.out.symm, hgb2⟩
end Go.Proofs.YtkkmjaggebjcbaaGreat.termvo
