/-
  Tmf, Tmg, Tmi, merged.
-/
import Derived.Test.YtkkmjaggebjcbaaGreatPk06
import Derived.Test.YtkkmjaggebjcbaaGreatPk09
import Derived.Shelf.SlSortCmp.NoneTotal
import Derived.Test.YtkkmjaggebjcbaaGreatPk14
import Derived.Test.YtkkmjaggebjcbaaGreatPk11
/-
 impl's form: the canonical form of an application, without regard to the limits.
-/
namespace Go.Proofs.YtkkmjaggebjcbaaGreat.tmf
open Go.ChangeShapes Go.WideShapes Go.ChangeAt Go.RowKit
open mem dec rowl trm trmv terml termb termt termx termcl tma tmr gramo tsk tsl tmb tmd

theorem own_far {w : World} {base n : Nat} {e : TypeId} {size : Nat} {v : Value} {xs : List Value} (h : w.ownsRow base e size v n xs) {x : Nat} (hx : x < base) (j : Nat) (u : Value) : (w.setCell ⟨x, j, none⟩ u).ownsRow base e size v n xs := by
 refine ⟨h.1, ?_⟩
 rcases h.2 with h2 | ⟨g, cap, cur, rfl, hb, hg, r⟩
 ·exact .inl h2
 ·exact .inr ⟨g, cap, cur, rfl, hb, by rw [Below.heap_setCell w ⟨x, j, none⟩ u g (by show g ≠ x; omega)]; exact hg, r⟩
/-- the four stores of a result -/
abbrev set4 (w : World) (x : Nat) (u0 u1 u2 u3 : Value) : World := (((w.setCell ⟨x, 0, none⟩ u0).setCell ⟨x, 1, none⟩ u1).setCell ⟨x, 2, none⟩ u2).setCell ⟨x, 3, none⟩ u3
theorem set4_belowB {B : Nat} {a w : World} (h : Below B a w) {x : Nat} (hx : B ≤ x) (u0 u1 u2 u3 : Value) : Below B a (set4 w x u0 u1 u2 u3) := (((h.setCell hx u0).setCell hx u1).setCell hx u2).setCell hx u3
theorem set4_far {w : World} {base n : Nat} {e : TypeId} {size : Nat} {v : Value} {xs : List Value} (h : w.ownsRow base e size v n xs) {x : Nat} (hx : x < base) (u0 u1 u2 u3 : Value) : (set4 w x u0 u1 u2 u3).ownsRow base e size v n xs := own_far (own_far (own_far (own_far h hx _ _) hx _ _) hx _ _) hx _ _
theorem set4_kept {lo : Nat} {w : World} {x : Nat} (hx : x < lo) (u0 u1 u2 u3 : Value) : Kept lo w (set4 w x u0 u1 u2 u3) := ((((Kept.refl lo w).trans (Kept.set hx u0)).trans (Kept.set hx u1)).trans (Kept.set hx u2)).trans (Kept.set hx u3)
theorem sizes_parts' (u : Int) (b : Bool) (k : Nat) : ∀ L : List TermM, sizes (partsM u b k L) ≤ sizes L
 | [] => Nat.le_refl _
 | a :: L => by
  have ih := sizes_parts' u b k L
  have e : partsM u b k (a :: L) = part1 u b k a ++ partsM u b k L := rfl
  have e2 : sizes (part1 u b k a ++ partsM u b k L) = sizes (part1 u b k a) + sizes (partsM u b k L) := by simp [sizes]
  rw [e, e2]
  have e3 : sizes (a :: L) = size a + sizes L := by simp [sizes]
  have e4 : sizes (part1 u b k a) ≤ size a := by
   have : size a = 1 + sizes a.args := by cases a; exact size_mk _ _ _ _
   unfold part1
   split
   ·simp [sizes]
   ·split
    ·omega
    ·simp [sizes]
  omega
/-- the answer: a term whose arguments are read wherever what wl has stands, and what is new -/
def FormP (N lo B : Nat) (wl : World) (t : TermM) (w' : World) (v : Value) : Prop := ∀ wz, Sub wl wz → Kept B w' wz → HasTs (N + 1) lo wz v t.args
set_option maxRecDepth 50000 in
set_option maxHeartbeats 8000000 in
theorem form_any {N lo : Nat} (nm : List UInt8) (Ad : Option Addr) (dn cd : Nat) (a b : Bool) (u : Int) (hu : I64 u) (hu0 : 0 ≤ u) (i s0 s1 s2 s3 s4 : Nat) (R0 : List (TermM × Value)) (va : Value) (wl w : World) (hs : Sub wl w) (hold : wl.heap.size ≤ w.heap.size)
  (h : RowIn N lo wl w va R0) (hne : ∀ x ∈ R0, a = true → x.1.op = (i : Int) → x.1.args ≠ []) (hlo : lo ≤ w.heap.size) (hsz : sizes (R0.map Prod.fst) ≤ 1048576) :
  Calls Tryz.prog 87 #[aggE nm Ad dn cd a b u i s0 s1 s2 s3 s4, va] w fun e w' => ∃ v', e = .returned (aggT (formM u a b i (R0.map Prod.fst)) v') ∧ FormP N lo w.heap.size wl (formM u a b i (R0.map Prod.fst)) w' v' ∧ Below w.heap.size w w' := by
 have hps := sizes_parts' u a i (R0.map Prod.fst)
 have hpl := sizes_len (partsM u a i (R0.map Prod.fst))
 have HPA := Lib.hid (fun W (hW : Below w.heap.size w W) => partsOf_any nm Ad dn cd a b u hu hu0 i s0 s1 s2 s3 s4 R0 va wl W (hs.trans (Sub.below hW)) (h.sub (Sub.below hW)) hne (by omega))
 have HHU := Lib.hid (fun r hr W => hasUnit_any nm Ad dn cd a b u i s0 s1 s2 s3 s4 r hr W)
 obtain ⟨A, c, rfl, h, hml⟩ := h.shape rfl
 obtain ⟨m, hm⟩ : ∃ m, m = R0.length := ⟨_, rfl⟩
 obtain ⟨L, hL⟩ : ∃ L, L = R0.map Prod.fst := ⟨_, rfl⟩
 rw [← hL] at HPA hps hpl hsz ⊢
 rw [← hm] at HPA ⊢
 have HSU := Lib.hid hs
 have HOD := Lib.hid hold
 have HLO := Lib.hid hlo
 have HPS : Hid (sizes (partsM u a i L) ≤ 1048576 ∧ (partsM u a i L).length ≤ 1048576) := Lib.hid ⟨by omega, by omega⟩
 have HU := Lib.hid (And.intro hu hu0)
 obtain ⟨W, hW⟩ : ∃ W, W = (w.alloc (.cells #[.string (bstr nm), .slice Ad dn cd, .bool a, .bool b, .int .i64 u, .int .i64 (i : Int), .int .i64 (s0 : Int), .int .u16 (s1 : Int), .int .u16 (s2 : Int), .int .u16 (s3 : Int), .int .u16 (s4 : Int)] 137)).alloc (.cells #[.int .i64 0, .string { data := #[] }, .int .i64 0, .slice none 0 0] 34) := ⟨_, rfl⟩
 have hb0 : Below w.heap.size w W := by
  rw [hW]
  repeat (first | exact Below.refl _ _ | refine Below.alloc ?_ (by first | (simp; done) | (simp; omega)) _)
 have hz0 : W.heap.size = w.heap.size + 2 := by rw [hW]; simp
 have hX0 : C11 w.heap.size nm Ad dn cd a b u i s0 s1 s2 s3 s4 W := by
  rw [hW]
  exact box11 (heap2a _ _ _)
 have hY0 : W.heap[w.heap.size + 1]? = some (.cells #[.int .i64 0, .string { data := #[] }, .int .i64 0, .slice none 0 0] 34 (0, 0)) := by rw [hW]; exact termt.heap_at _ _ _ (by simp)
 have HB0 := Lib.hid hb0
 have HZ0 := Lib.hid hz0
 have HX0 := Lib.hid hX0
 have HY0 := Lib.hid hY0
 clear h hsz hne hm hL hs hold hlo hps hpl hml hu hu0 hb0 hz0 hX0 hY0
 obtain ⟨y0, y1, y2, y3, y4, y5, y6, y7, y8, y9, y10⟩ := HX0.out
 go_enter Tryz.func87, Tryz.ntmps87
 go_wp2_with fail
 rw [← hW]
 clear hW
 refine (HPA.out W HB0.out).mono ?_
 rintro e w1 ⟨v1, R, rfl, hR, hE, hown, hnil, hb1⟩
 have HF := Lib.hid hR
 have HE := Lib.hid hE
 have HN := Lib.hid hnil
 have HB1 : Hid (Below w.heap.size w w1) := Lib.hid (HB0.out.trans (hb1.mono HB0.out.size))
 have hz1 : w.heap.size + 2 ≤ w1.heap.size := by have := hb1.size; have := HZ0.out; omega
 have HO : Hid (w1.ownsRow (w.heap.size + 3) 34 4 v1 R.length (rowV R)) := Lib.hid (by rw [HZ0.out] at hown; exact hown)
 have HRL : Hid (R.length = (partsM u a i L).length) := Lib.hid (by rw [← hR, List.length_map])
 have HX1 : Hid (C11 w.heap.size nm Ad dn cd a b u i s0 s1 s2 s3 s4 w1) := Lib.hid (HX0.out.below hb1)
 have HY1 : Hid (w1.heap[w.heap.size + 1]? = some (.cells #[.int .i64 0, .string { data := #[] }, .int .i64 0, .slice none 0 0] 34 (0, 0))) := Lib.hid ((hb1.block _ (by have := HZ0.out; omega)).trans HY0.out)
 obtain ⟨A1, c1, rfl, hc1⟩ := own_slice HO.out
 obtain ⟨q, hq⟩ : ∃ q, q = R.length := ⟨_, rfl⟩
 rw [← hq] at HO HRL hc1 ⊢
 have HQ := Lib.hid hq
 have hq20 : q ≤ 1048576 := by have := HPS.out.2; have := HRL.out; omega
 clear hb1 hR hE hown hnil hq y0 y1 y2 y3 y4 y5 y6 y7 y8 y9 y10 HX0 HY0 HZ0 HB0 HPA
 have HSL : Hid (Sub wl w1) := Lib.hid (HSU.out.trans (Sub.below HB1.out))
 -- the answer is a node
 obtain ⟨cm, hcm⟩ : ∃ cm : Bool, cm = (b && decide (q ≤ 7)) := ⟨_, rfl⟩
 have HCM := Lib.hid hcm
 have HFM : Hid (¬ (u ≠ 0 ∧ q = 0) → ¬ (u ≠ 0 ∧ q = 1) → formM u a b i L = .mk i [] 0 (if cm = true then sortM (partsM u a i L) else partsM u a i L)) := Lib.hid (fun h0 h1 => by
  unfold formM
  rw [if_neg (by rw [← HRL.out]; exact h0), if_neg (by rw [← HRL.out]; exact h1)]
  congr 1
  rw [← HRL.out, hcm]
  by_cases hb : b = true ∧ q ≤ 7
  ·rw [if_pos hb, if_pos (by simp [hb])]
  ·rw [if_neg hb, if_neg (fun h => hb (by simpa using h))])
 have HEND : Hid (∀ (R' : List (TermM × Value)) (A2 : Option Addr) (c2 : Nat) (w5 : World) (u0 u1 u2 u3 : Value), R'.length = q → ¬ (u ≠ 0 ∧ q = 0) → ¬ (u ≠ 0 ∧ q = 1) → R'.map Prod.fst = (if cm = true then sortM (partsM u a i L) else partsM u a i L) → (∀ x ∈ R', El N lo wl x) → w5.ownsRow (w.heap.size + 3) 34 4 (.slice A2 q c2) q (rowV R') → Below w.heap.size w w5 →
   ∃ v', (Ending.returned (.agg #[.int .i64 (i : Int), .string (bstr []), .int .i64 0, .slice A2 q c2])) = .returned (aggT (formM u a b i L) v') ∧ FormP N lo w.heap.size wl (formM u a b i L) (set4 w5 (w.heap.size + 1) u0 u1 u2 u3) v' ∧ Below w.heap.size w (set4 w5 (w.heap.size + 1) u0 u1 u2 u3)) := Lib.hid (fun R' A2 c2 w5 u0 u1 u2 u3 hl h0 h1 hR' hE' ho' hb' => by
  refine ⟨.slice A2 q c2, by rw [HFM.out h0 h1]; rfl, fun wz hz hk => ?_, set4_belowB hb' (by omega) _ _ _ _⟩
  have ho2 := set4_far ho' (x := w.heap.size + 1) (by omega) u0 u1 u2 u3
  rw [← hl] at ho2
  have := own_has ho2 hE' (by have := HLO.out; omega) hz (hk.mono (by omega))
  rw [hR', hl] at this
  rw [HFM.out h0 h1]
  exact this)
 obtain ⟨hu, hhu⟩ : ∃ z, decide (u ≠ 0) = z := ⟨_, rfl⟩
 have HHV := Lib.hid hhu
 have HUC := Lib.hid (fun W => HHU.out hu hhu W)
 have hbstr0 : (bstr [] : ByteArray) = { data := #[] } := rfl
 clear hcm hhu HHU
 obtain ⟨y0, y1, y2, y3, y4, y5, y6, y7, y8, y9, y10⟩ := HX1.out
 have HX2 : Hid (∀ w2, Below w1.heap.size w1 w2 → C11 w.heap.size nm Ad dn cd a b u i s0 s1 s2 s3 s4 w2 ∧ w2.heap[w.heap.size + 1]? = some (.cells #[.int .i64 0, .string { data := #[] }, .int .i64 0, .slice none 0 0] 34 (0, 0)) ∧ Below w.heap.size w w2 ∧ w2.ownsRow (w.heap.size + 3) 34 4 (.slice A1 q c1) q (rowV R)) := Lib.hid (fun w2 h2 => ⟨HX1.out.below h2, (h2.block _ (by omega)).trans HY1.out, HB1.out.trans (h2.mono HB1.out.size), own_below HO.out h2⟩)
 clear HX1 HY1
 go_wp2_with fail
 refine (HUC.out _).mono ?_
 rintro e w2 ⟨rfl, hb2⟩
 obtain ⟨hx2, hy2, hw2, ho2⟩ := HX2.out w2 hb2
 clear y0 y1 y2 y3 y4 y5 y6 y7 y8 y9 y10
 have HZC : Hid (∀ w3 : World, Below w2.heap.size w2 w3 → C11 w.heap.size nm Ad dn cd a b u i s0 s1 s2 s3 s4 w3 ∧ (w3.cell? ⟨w.heap.size + 1, 0, none⟩ = some (.int .i64 0) ∧ w3.cell? ⟨w.heap.size + 1, 1, none⟩ = some (.string { data := #[] }) ∧ w3.cell? ⟨w.heap.size + 1, 2, none⟩ = some (.int .i64 0) ∧ w3.cell? ⟨w.heap.size + 1, 3, none⟩ = some (.slice none 0 0)) ∧ (w3.frozen? ⟨w.heap.size + 1, 0, none⟩ = false ∧ w3.frozen? ⟨w.heap.size + 1, 1, none⟩ = false ∧ w3.frozen? ⟨w.heap.size + 1, 2, none⟩ = false ∧ w3.frozen? ⟨w.heap.size + 1, 3, none⟩ = false) ∧ Below w.heap.size w w3 ∧ w3.ownsRow (w.heap.size + 3) 34 4 (.slice A1 q c1) q (rowV R)) := Lib.hid (fun w3 h3 => by
  have h4 := (h3.block _ (by have := hb2.size; omega)).trans hy2
  exact ⟨hx2.below h3, ⟨cell_of_row w3 _ 0 _ _ _ h4, cell_of_row w3 _ 1 _ _ _ h4, cell_of_row w3 _ 2 _ _ _ h4, cell_of_row w3 _ 3 _ _ _ h4⟩, ⟨frozen_of_row w3 _ 0 _ _ h4, frozen_of_row w3 _ 1 _ _ h4, frozen_of_row w3 _ 2 _ _ h4, frozen_of_row w3 _ 3 _ _ h4⟩, hw2.trans (h3.mono hw2.size), own_below ho2 h3⟩)
 clear hx2 hy2 hw2 ho2 HX2
 have hw : wrap64 (u - 1) = u - 1 := by
  obtain ⟨⟨h1, h2⟩, h3⟩ := HU.out
  exact IntWalk.wrap64_in (u - 1) (by omega)
 have HWR := Lib.hid hw
 obtain ⟨⟨y0, y1, y2, y3, y4, y5, y6, y7, y8, y9, y10⟩, ⟨z0, z1, z2, z3⟩, ⟨f0, f1, f2, f3⟩, hw2, ho2⟩ := HZC.out w2 (Below.refl _ _)
 have HW2 := Lib.hid hw2
 have HO2 := Lib.hid ho2
 clear hw2 ho2
 cases hu with
 | true =>
  have hu1 : u ≠ 0 := of_decide_eq_true HHV.out
  by_cases hq0 : q = 0
  ·have b1 : ((q : Int) == 0) = true := by rw [hq0]; rfl
   have b2 : (q == 0) = true := by rw [hq0]; rfl
   have HFE : Hid (formM u a b i L = .mk (u - 1) [] 0 []) := Lib.hid (by unfold formM; rw [if_pos ⟨hu1, by rw [← HRL.out]; exact hq0⟩])
   have HUN := Lib.hid (fun W => unit_any nm Ad dn cd a b u HU.out.1 HU.out.2 i s0 s1 s2 s3 s4 W)
   go_wp2_with fail
   refine (HUN.out _).mono ?_
   rintro e w3 ⟨rfl, hb3⟩
   clear y0 y1 y2 y3 y4 y5 y6 y7 y8 y9 y10 z0 z1 z2 z3 f0 f1 f2 f3
   obtain ⟨_, ⟨z0, z1, z2, z3⟩, ⟨f0, f1, f2, f3⟩, hw3, _⟩ := HZC.out w3 hb3
   have HW3 := Lib.hid hw3
   clear hw3 hb3
   go_wp2
   refine bodyPost_ret (v := .agg #[.int .i64 (u - 1), .string { data := #[] }, .int .i64 0, .slice none 0 0]) (by simp [results, Tryz.results87, go_sem, z0, z1, z2, z3]) rfl ?_
   rw [HFE.out]
   exact ⟨.slice none 0 0, rfl, fun wz _ _ => HasR.nil _ _ _ (by unfold maxLen; omega) _, set4_belowB HW3.out (by omega) _ _ _ _⟩
  ·have b1 : ((q : Int) == 0) = false := by simp; omega
   have b2 : (q == 0) = false := by simp [hq0]
   have b3 : decide ((q : Int) = 0) = false := decide_eq_false (by omega)
   by_cases hq1 : q = 1
   ·have b4 : ((q : Int) == 1) = true := by rw [hq1]; rfl
    have b5 : (q == 1) = true := by rw [hq1]; rfl
    go_wp2_with fail
    refine (HUC.out _).mono ?_
    rintro e w3 ⟨rfl, hb3⟩
    clear y0 y1 y2 y3 y4 y5 y6 y7 y8 y9 y10 z0 z1 z2 z3 f0 f1 f2 f3
    obtain ⟨_, ⟨z0, z1, z2, z3⟩, ⟨f0, f1, f2, f3⟩, hw3, ho3⟩ := HZC.out w3 hb3
    obtain ⟨g, cap, hv, hgb, hgl⟩ := own_shape ho3 (fun e => by have h9 := congrArg List.length e; rw [rowV_len, List.length_nil] at h9; have := HQ.out; omega)
    simp only [Value.slice.injEq] at hv
    obtain ⟨rfl, _, rfl⟩ := hv
    have hq' : 0 < R.length := by have := HQ.out; omega
    obtain ⟨a0, a1, a2, a3⟩ := rowV_at R 0 hq'
    have hE0 := HE.out _ (mem_R hq')
    have HFE : Hid (formM u a b i L = (R.getD 0 p0).1) := Lib.hid (by
     unfold formM
     rw [if_neg (fun h => hq0 (by rw [HRL.out]; exact h.2)), if_pos ⟨hu1, by rw [← HRL.out]; exact hq1⟩, ← HF.out, fst_at hq'])
    obtain ⟨x, hx⟩ : ∃ x, x = R.getD 0 p0 := ⟨_, rfl⟩
    rw [← hx] at a0 a1 a2 a3 hE0 HFE
    have r0 := (ho3.cellAt 0 (by omega)).trans a0
    have r1 := (ho3.cellAt 1 (by omega)).trans a1
    have r2 := (ho3.cellAt 2 (by omega)).trans a2
    have r3 := (ho3.cellAt 3 (by omega)).trans a3
    obtain ⟨Bx, cx, hBx, _⟩ := HasR.shape hE0.1 rfl
    obtain ⟨xt, xv⟩ := x
    simp only [] at r0 r1 r2 r3 hE0 HFE hBx
    have HE0 := Lib.hid hE0
    have HW3 := Lib.hid hw3
    obtain ⟨xl, hxl⟩ : ∃ xl, xl = xt.args.length := ⟨_, rfl⟩
    rw [← hxl] at hBx
    subst hBx
    clear a0 a1 a2 a3 hE0 hx hw3 ho3 hb3 hxl
    go_wp2
    refine bodyPost_ret (v := .agg #[.int .i64 xt.op, .string (bstr xt.name), .int .i64 xt.sort, .slice Bx xl cx]) (by simp [results, Tryz.results87, go_sem, z0, z1, z2, z3]) rfl ?_
    rw [HFE.out]
    exact ⟨_, rfl, fun wz hz _ => (has_sub N hz HE0.out.1).up (Nat.le_succ N), set4_belowB HW3.out (by omega) _ _ _ _⟩
   ·have b4 : ((q : Int) == 1) = false := by simp; omega
    have b5 : (q == 1) = false := by simp [hq1]
    have b6 : decide ((q : Int) = 1) = false := decide_eq_false (by omega)
    have hne0 : ¬ (u ≠ 0 ∧ q = 0) := fun h => hq0 h.2
    have hne1 : ¬ (u ≠ 0 ∧ q = 1) := fun h => hq1 h.2
    go_wp2_with fail
    have HQN : Hid (¬ (u ≠ 0 ∧ q = 0) ∧ ¬ (u ≠ 0 ∧ q = 1)) := Lib.hid ⟨hne0, hne1⟩
    clear hne0 hne1
    refine (HUC.out _).mono ?_
    rintro e w3 ⟨rfl, hb3⟩
    clear y0 y1 y2 y3 y4 y5 y6 y7 y8 y9 y10 z0 z1 z2 z3 f0 f1 f2 f3
    obtain ⟨⟨y0, y1, y2, y3, y4, y5, y6, y7, y8, y9, y10⟩, ⟨z0, z1, z2, z3⟩, ⟨f0, f1, f2, f3⟩, hw3, ho3⟩ := HZC.out w3 hb3
    have HW3 := Lib.hid hw3
    have HO3 := Lib.hid ho3
    have HZ3 := Lib.hid (fun w4 (h4 : Below w3.heap.size w3 w4) => HZC.out w4 (hb3.trans (h4.mono hb3.size)))
    clear hw3 ho3
    by_cases hcmt : b = true ∧ q ≤ 7
    ·obtain ⟨rfl, hq7⟩ := hcmt
     have hcT : cm = true := by rw [HCM.out]; simp [hq7]
     have d1 : decide ((q : Int) ≤ 7) = true := decide_eq_true (by omega)
     have d2 : decide (q ≤ 7) = true := decide_eq_true hq7
     by_cases hq0 : q = 0
     ·exact absurd hq0 (fun h => HQN.out.1 ⟨hu1, h⟩)
     ·obtain ⟨g, cap, hv, hgb, hgl⟩ := own_shape HO3.out (fun e => by have h9 := congrArg List.length e; rw [rowV_len, List.length_nil] at h9; have := HQ.out; omega)
      simp only [Value.slice.injEq] at hv
      obtain ⟨rfl, _, rfl⟩ := hv
      have HSO := Lib.hid (sort_rows (N := N) (lo := lo) (g := g) (cap := c1) (base := w.heap.size + 3) wl w3 R HE.out (fun x hx => by
       have h9 : x.1 ∈ partsM u a i L := by rw [← HF.out]; exact List.mem_map.2 ⟨x, hx, rfl⟩
       obtain ⟨j, hj, ej⟩ := List.getElem_of_mem h9
       have h8 := size_le_sizes hj
       rw [getD_at hj, ej] at h8
       have h7 : size x.1 = 1 + sizes x.1.args := by cases x.1; exact size_mk _ _ _ _
       have := HPS.out.1
       omega) (fun w' hc' ad v hcell => by
       have hlt := block_lt_of_cell hcell
       have h8 := (HSL.out.trans (Sub.below (Below.trans hb2 (hb3.mono hb2.size)))) ad v hcell
       refine (World.cell?_of_block (hc'.block _ (block_lt_of_cell h8) (fun hm => ?_))).trans h8
       have := HOD.out
       simp at hm
       omega) (by rw [← HQ.out]; exact HO3.out) (by have := HQ.out; omega))
      rw [← HQ.out] at HSO
      go_wp2_with fail
      refine HSO.out.mono ?_
      rintro e w4 ⟨rfl, R', hl', hR', hE', ho', hch⟩
      have hb4 : Below w.heap.size w w4 := HW3.out.trans (hch.below HW3.out.size (fun k hk => by simp at hk; omega))
      have hsame : w4.heap[w.heap.size]? = w3.heap[w.heap.size]? := hch.block _ (by have := HW3.out.size; omega) (by simp; omega)
      have hsame1 : w4.heap[w.heap.size + 1]? = w3.heap[w.heap.size + 1]? := hch.block _ (by omega) (by simp; omega)
      have k0 : ∀ y, w4.cell? ⟨w.heap.size, y, none⟩ = w3.cell? ⟨w.heap.size, y, none⟩ := fun y => World.cell?_of_block (a := ⟨w.heap.size, y, none⟩) hsame
      have k1 : ∀ y, w4.cell? ⟨w.heap.size + 1, y, none⟩ = w3.cell? ⟨w.heap.size + 1, y, none⟩ := fun y => World.cell?_of_block (a := ⟨w.heap.size + 1, y, none⟩) hsame1
      have k2 : ∀ y, w4.frozen? ⟨w.heap.size + 1, y, none⟩ = w3.frozen? ⟨w.heap.size + 1, y, none⟩ := fun y => World.frozen?_of_block (a := ⟨w.heap.size + 1, y, none⟩) hsame1
      rw [← k1] at z0 z1 z2 z3
      rw [← k2] at f0 f1 f2 f3
      rw [← k0] at y5
      have HFN := Lib.hid (HEND.out R' (some ⟨g, 0, none⟩) c1 w4 (.int .i64 (i : Int)) (.string { data := #[] }) (.int .i64 0) (.slice (some ⟨g, 0, none⟩) q c1) hl' HQN.out.1 HQN.out.2 (by rw [if_pos hcT, hR', HF.out]) hE' (by rw [hl'] at ho'; exact ho') hb4)
      clear hl' hR' hE' ho' hch hsame hsame1 k0 k1 k2 hb4 HSO
      go_wp2
      refine bodyPost_ret (v := .agg #[.int .i64 (i : Int), .string { data := #[] }, .int .i64 0, .slice (some ⟨g, 0, none⟩) q c1]) (by simp [results, Tryz.results87, go_sem, z0, z1, z2, z3]) rfl ?_
      exact HFN.out
    ·have hc1 : cm = false := by rw [HCM.out]; cases b <;> simp_all
     have HFN := Lib.hid (HEND.out R A1 c1 w3 (.int .i64 (i : Int)) (.string { data := #[] }) (.int .i64 0) (.slice A1 q c1) HQ.out.symm HQN.out.1 HQN.out.2 (by rw [if_neg (by rw [hc1]; simp), HF.out]) HE.out HO3.out HW3.out)
     cases b with
     | false =>
      go_wp2
      refine bodyPost_ret (v := .agg #[.int .i64 (i : Int), .string { data := #[] }, .int .i64 0, .slice A1 q c1]) (by simp [results, Tryz.results87, go_sem, z0, z1, z2, z3]) rfl ?_
      exact HFN.out
     | true =>
      have hq7 : ¬ q ≤ 7 := fun h => hcmt ⟨rfl, h⟩
      have d1 : decide ((q : Int) ≤ 7) = false := decide_eq_false (by omega)
      have d2 : decide (q ≤ 7) = false := decide_eq_false hq7
      go_wp2
      refine bodyPost_ret (v := .agg #[.int .i64 (i : Int), .string { data := #[] }, .int .i64 0, .slice A1 q c1]) (by simp [results, Tryz.results87, go_sem, z0, z1, z2, z3]) rfl ?_
      exact HFN.out
 | false =>
  have hu1 : u = 0 := by have := of_decide_eq_false HHV.out; omega
  have hne0 : ¬ (u ≠ 0 ∧ q = 0) := fun h => h.1 hu1
  have hne1 : ¬ (u ≠ 0 ∧ q = 1) := fun h => h.1 hu1
  clear hu1
  go_wp2_with fail
  have HQN : Hid (¬ (u ≠ 0 ∧ q = 0) ∧ ¬ (u ≠ 0 ∧ q = 1)) := Lib.hid ⟨hne0, hne1⟩
  clear hne0 hne1
  refine (HUC.out _).mono ?_
  rintro e w3 ⟨rfl, hb3⟩
  clear y0 y1 y2 y3 y4 y5 y6 y7 y8 y9 y10 z0 z1 z2 z3 f0 f1 f2 f3
  obtain ⟨⟨y0, y1, y2, y3, y4, y5, y6, y7, y8, y9, y10⟩, ⟨z0, z1, z2, z3⟩, ⟨f0, f1, f2, f3⟩, hw3, ho3⟩ := HZC.out w3 hb3
  have HW3 := Lib.hid hw3
  have HO3 := Lib.hid ho3
  have HZ3 := Lib.hid (fun w4 (h4 : Below w3.heap.size w3 w4) => HZC.out w4 (hb3.trans (h4.mono hb3.size)))
  clear hw3 ho3
  by_cases hcmt : b = true ∧ q ≤ 7
  ·obtain ⟨rfl, hq7⟩ := hcmt
   have hcT : cm = true := by rw [HCM.out]; simp [hq7]
   have d1 : decide ((q : Int) ≤ 7) = true := decide_eq_true (by omega)
   have d2 : decide (q ≤ 7) = true := decide_eq_true hq7
   by_cases hq0 : q = 0
   ·have hR := List.eq_nil_of_length_eq_zero (show R.length = 0 by have := HQ.out; omega)
    have h9 := HN.out hR
    simp only [Value.slice.injEq] at h9
    obtain ⟨rfl, _, rfl⟩ := h9
    subst hq0
    have HFN := Lib.hid (HEND.out [] none 0 w3 (.int .i64 (i : Int)) (.string { data := #[] }) (.int .i64 0) (.slice none 0 0) rfl HQN.out.1 HQN.out.2 (by
     have h9 := HF.out
     rw [hR] at h9
     rw [if_pos hcT, ← h9]
     rfl) (fun x hx => by cases hx) (by have := HO3.out; rw [hR] at this; exact this) HW3.out)
    clear hR
    go_wp2_with fail
    refine (AnyF.slices_SortFunc_none termsl.sortT none 0 _ _).mono ?_
    rintro e w4 ⟨rfl, rfl⟩
    go_wp2
    refine bodyPost_ret (v := .agg #[.int .i64 (i : Int), .string { data := #[] }, .int .i64 0, .slice none 0 0]) (by simp [results, Tryz.results87, go_sem, z0, z1, z2, z3]) rfl ?_
    exact HFN.out
   ·obtain ⟨g, cap, hv, hgb, hgl⟩ := own_shape HO3.out (fun e => by have h9 := congrArg List.length e; rw [rowV_len, List.length_nil] at h9; have := HQ.out; omega)
    simp only [Value.slice.injEq] at hv
    obtain ⟨rfl, _, rfl⟩ := hv
    have HSO := Lib.hid (sort_rows (N := N) (lo := lo) (g := g) (cap := c1) (base := w.heap.size + 3) wl w3 R HE.out (fun x hx => by
     have h9 : x.1 ∈ partsM u a i L := by rw [← HF.out]; exact List.mem_map.2 ⟨x, hx, rfl⟩
     obtain ⟨j, hj, ej⟩ := List.getElem_of_mem h9
     have h8 := size_le_sizes hj
     rw [getD_at hj, ej] at h8
     have h7 : size x.1 = 1 + sizes x.1.args := by cases x.1; exact size_mk _ _ _ _
     have := HPS.out.1
     omega) (fun w' hc' ad v hcell => by
     have hlt := block_lt_of_cell hcell
     have h8 := (HSL.out.trans (Sub.below (Below.trans hb2 (hb3.mono hb2.size)))) ad v hcell
     refine (World.cell?_of_block (hc'.block _ (block_lt_of_cell h8) (fun hm => ?_))).trans h8
     have := HOD.out
     simp at hm
     omega) (by rw [← HQ.out]; exact HO3.out) (by have := HQ.out; omega))
    rw [← HQ.out] at HSO
    go_wp2_with fail
    refine HSO.out.mono ?_
    rintro e w4 ⟨rfl, R', hl', hR', hE', ho', hch⟩
    have hb4 : Below w.heap.size w w4 := HW3.out.trans (hch.below HW3.out.size (fun k hk => by simp at hk; omega))
    have hsame : w4.heap[w.heap.size]? = w3.heap[w.heap.size]? := hch.block _ (by have := HW3.out.size; omega) (by simp; omega)
    have hsame1 : w4.heap[w.heap.size + 1]? = w3.heap[w.heap.size + 1]? := hch.block _ (by omega) (by simp; omega)
    have k0 : ∀ y, w4.cell? ⟨w.heap.size, y, none⟩ = w3.cell? ⟨w.heap.size, y, none⟩ := fun y => World.cell?_of_block (a := ⟨w.heap.size, y, none⟩) hsame
    have k1 : ∀ y, w4.cell? ⟨w.heap.size + 1, y, none⟩ = w3.cell? ⟨w.heap.size + 1, y, none⟩ := fun y => World.cell?_of_block (a := ⟨w.heap.size + 1, y, none⟩) hsame1
    have k2 : ∀ y, w4.frozen? ⟨w.heap.size + 1, y, none⟩ = w3.frozen? ⟨w.heap.size + 1, y, none⟩ := fun y => World.frozen?_of_block (a := ⟨w.heap.size + 1, y, none⟩) hsame1
    rw [← k1] at z0 z1 z2 z3
    rw [← k2] at f0 f1 f2 f3
    rw [← k0] at y5
    have HFN := Lib.hid (HEND.out R' (some ⟨g, 0, none⟩) c1 w4 (.int .i64 (i : Int)) (.string { data := #[] }) (.int .i64 0) (.slice (some ⟨g, 0, none⟩) q c1) hl' HQN.out.1 HQN.out.2 (by rw [if_pos hcT, hR', HF.out]) hE' (by rw [hl'] at ho'; exact ho') hb4)
    clear hl' hR' hE' ho' hch hsame hsame1 k0 k1 k2 hb4 HSO
    go_wp2
    refine bodyPost_ret (v := .agg #[.int .i64 (i : Int), .string { data := #[] }, .int .i64 0, .slice (some ⟨g, 0, none⟩) q c1]) (by simp [results, Tryz.results87, go_sem, z0, z1, z2, z3]) rfl ?_
    exact HFN.out
  ·have hc1 : cm = false := by rw [HCM.out]; cases b <;> simp_all
   have HFN := Lib.hid (HEND.out R A1 c1 w3 (.int .i64 (i : Int)) (.string { data := #[] }) (.int .i64 0) (.slice A1 q c1) HQ.out.symm HQN.out.1 HQN.out.2 (by rw [if_neg (by rw [hc1]; simp), HF.out]) HE.out HO3.out HW3.out)
   cases b with
   | false =>
    go_wp2
    refine bodyPost_ret (v := .agg #[.int .i64 (i : Int), .string { data := #[] }, .int .i64 0, .slice A1 q c1]) (by simp [results, Tryz.results87, go_sem, z0, z1, z2, z3]) rfl ?_
    exact HFN.out
   | true =>
    have hq7 : ¬ q ≤ 7 := fun h => hcmt ⟨rfl, h⟩
    have d1 : decide ((q : Int) ≤ 7) = false := decide_eq_false (by omega)
    have d2 : decide (q ≤ 7) = false := decide_eq_false hq7
    go_wp2
    refine bodyPost_ret (v := .agg #[.int .i64 (i : Int), .string { data := #[] }, .int .i64 0, .slice A1 q c1]) (by simp [results, Tryz.results87, go_sem, z0, z1, z2, z3]) rfl ?_
    exact HFN.out
end Go.Proofs.YtkkmjaggebjcbaaGreat.tmf
/-
 impl's applied: the canonical form of an application to terms, if it is a term.
-/
namespace Go.Proofs.YtkkmjaggebjcbaaGreat.tmg
open Go.ChangeShapes Go.WideShapes Go.ChangeAt Go.RowKit
open mem dec setm sets sortm sortn sortp sorti rowl trm trmv terml termb termt termx termz termro termsd termvr termev frm termlm sigi gram gramo graml gramk gramc gramn gramt termcl tma tmr tsk tsl tmb tmd tmf

/-- the zero Term -/
def zT : TermM := .mk 0 [] 0 []
/-- the term, or the zero Term -/
def orZ (r : Bool) (t : TermM) : TermM := if r = true then t else zT
noncomputable def formG (G : GrM) (op : Int) (L : List TermM) : TermM := formM (G.E.getD op.toNat default).1.unt (G.E.getD op.toNat default).1.ass (G.E.getD op.toNat default).1.com op.toNat L
theorem FormP.later {N lo B B' : Nat} {wl w1 w2 : World} {t : TermM} {v : Value} (h : FormP N lo B wl t w1 v) (hk : Kept B w1 w2) (hB : B' ≤ B) : FormP N lo B' wl t w2 v := fun wz hz hk2 => h wz hz (hk.trans (hk2.mono hB))
theorem formP_zero (N lo B : Nat) (wl w : World) : FormP N lo B wl zT w (.slice none 0 0) := fun wz _ _ => HasR.nil _ _ _ (by unfold maxLen; omega) _
theorem sizes_form (u : Int) (b c : Bool) (k : Nat) (L : List TermM) : sizes (formM u b c k L).args ≤ sizes L := by
 have h := sizes_parts' u b k L
 unfold formM
 split
 ·simp [sizes, TermM.args]
 ·split
  ·rename_i h1
   have h2 := size_le_sizes (l := partsM u b k L) (j := 0) (by omega)
   have h3 := termro.size_eq ((partsM u b k L).getD 0 default)
   omega
  ·show sizes (if _ then _ else _) ≤ _
   split
   ·have h2 : sizes (sortM (partsM u b k L)) = sizes (partsM u b k L) := by
     unfold sizes
     exact ((sortM_spec _).2.map size).sum_nat
    omega
   ·exact h
theorem bnd_form {u : Int} (hu : I64 u) (hu0 : 0 ≤ u) {b c : Bool} {k : Nat} (hk : k ≤ 9223372036854775807) {R : List (TermM × Value)} (hB : ∀ x ∈ R, Bnd x.1) (hA : ∀ x ∈ R, ∀ a ∈ x.1.args, Bnd a) : Bnd (formM u b c k (R.map Prod.fst)) := by
 obtain ⟨h1, h2⟩ := hu
 unfold formM
 split
 ·exact ⟨by show ([] : List UInt8).length ≤ _; simp, by unfold I64; show -9223372036854775808 ≤ u - 1 ∧ u - 1 ≤ 9223372036854775807; omega, by unfold I64; show (-9223372036854775808 : Int) ≤ 0 ∧ (0 : Int) ≤ 9223372036854775807; omega⟩
 ·split
  ·rename_i h1
   have hm : (partsM u b k (R.map Prod.fst)).getD 0 default ∈ partsM u b k (R.map Prod.fst) := by rw [List.getD_eq_getElem?_getD, List.getElem?_eq_getElem (by omega)]; exact List.getElem_mem _
   obtain ⟨a, ha, h | h⟩ := tmm.mem_parts hm
   ·rw [h.1]
    obtain ⟨x, hx, rfl⟩ := List.mem_map.1 ha
    exact hB x hx
   ·obtain ⟨x, hx, rfl⟩ := List.mem_map.1 ha
    exact hA x hx _ h.1
  ·exact ⟨by show ([] : List UInt8).length ≤ _; simp, by unfold I64; show (-9223372036854775808 : Int) ≤ (k : Int) ∧ (k : Int) ≤ 9223372036854775807; omega, by unfold I64; show (-9223372036854775808 : Int) ≤ 0 ∧ (0 : Int) ≤ 9223372036854775807; omega⟩
/-- the elements' arguments are in range -/
theorem el_args {N lo : Nat} {wl : World} {x : TermM × Value} (h : El N lo wl x) : ∀ a ∈ x.1.args, Bnd a := by
 intro a ha
 obtain ⟨A, c, e, h1⟩ := HasR.shape h.1 rfl
 obtain ⟨i, hi, ei⟩ := List.getElem_of_mem ha
 obtain ⟨_, _, _, _, _, _, _, _, _, _, _, _, _, _, hb⟩ := term_at h1 hi
 rw [getD_at hi, ei] at hb
 exact hb
set_option maxRecDepth 50000 in
set_option maxHeartbeats 8000000 in
theorem applied_any {N lo : Nat} (G : GrM) (hG : GrOk G) (mm : Option Nat) (A : Option Addr) (n c : Nat) (op : Int) (hop : I64 op) (R0 : List (TermM × Value)) (va : Value) (wl w : World) (hs : Sub wl w) (hold : wl.heap.size ≤ w.heap.size) (hM : HasM w (.map mm) (.slice A n c) G) (hn : n = G.E.length)
  (h : RowIn N lo wl w va R0) (hne : ∀ x ∈ R0, ∀ k, k < n → (G.E.getD k default).1.ass = true → x.1.op = (k : Int) → x.1.args ≠ []) (hlo : lo ≤ w.heap.size) (hsz : sizes (R0.map Prod.fst) ≤ 1048576) (r : Bool) (hr : r = true ↔ CanP G op (R0.map Prod.fst) ∧ LimT (formG G op (R0.map Prod.fst))) :
  Calls Tryz.prog 40 #[.agg #[.map mm, .slice A n c], .int .i64 op, va] w fun e w' => ∃ t' v', e = .returned (.tuple #[aggT t' v', .bool r]) ∧ t' = orZ r (formG G op (R0.map Prod.fst)) ∧ FormP N lo w.heap.size wl t' w' v' ∧ Below w.heap.size w w' := by
 obtain ⟨L, hL⟩ : ∃ L, L = R0.map Prod.fst := ⟨_, rfl⟩
 obtain ⟨cb, hcb⟩ : ∃ cb : Bool, cb = true ↔ CanP G op L := by
  by_cases hq : CanP G op L
  ·exact ⟨true, fun _ => hq, fun _ => rfl⟩
  ·exact ⟨false, fun e => absurd e (by simp), fun e => absurd e hq⟩
 have HCA := Lib.hid (fun W (hW : Below w.heap.size w W) => canApply_any G hG (.map mm) A n c op hop L va W (hM.below hW) hn (by rw [hL]; exact ((h.wl hs).sub (Sub.below hW)).has (Sub.below hW)) cb hcb)
 obtain ⟨A1, c1, rfl, h, hml⟩ := h.shape rfl
 obtain ⟨m, hm⟩ : ∃ m, m = R0.length := ⟨_, rfl⟩
 have hbnd : ∀ x ∈ R0, Bnd x.1 := fun x hx => (by obtain ⟨_, _, _, _, _, _, h4⟩ := h; exact (h4 x hx).2)
 have harg : ∀ x ∈ R0, ∀ a ∈ x.1.args, Bnd a := fun x hx => (by obtain ⟨_, _, _, _, _, _, h4⟩ := h; exact el_args (h4 x hx))
 rw [← hL] at hr hsz ⊢
 rw [← hm] at HCA ⊢
 obtain ⟨W, hW⟩ : ∃ W, W = (w.alloc (.cells #[.map mm, .slice A n c] 78)).alloc (.cells #[.int .i64 0, .string { data := #[] }, .int .i64 0, .slice none 0 0] 34) := ⟨_, rfl⟩
 have hb0 : Below w.heap.size w W := by
  rw [hW]
  repeat (first | exact Below.refl _ _ | refine Below.alloc ?_ (by first | (simp; done) | (simp; omega)) _)
 have hz0 : W.heap.size = w.heap.size + 2 := by rw [hW]; simp
 have hX0 : W.heap[w.heap.size]? = some (.cells #[.map mm, .slice A n c] 78 (0, 0)) := by rw [hW]; exact tsl.heap2a _ _ _
 have hY0 : W.heap[w.heap.size + 1]? = some (.cells #[.int .i64 0, .string { data := #[] }, .int .i64 0, .slice none 0 0] 34 (0, 0)) := by rw [hW]; exact termt.heap_at _ _ _ (by simp)
 have HB0 := Lib.hid hb0
 have HWL : Hid (∀ w3, Below W.heap.size W w3 → w.heap.size + 2 ≤ w3.heap.size ∧ (w3.cell? ⟨w.heap.size, 0, none⟩ = some (.map mm) ∧ w3.cell? ⟨w.heap.size, 1, none⟩ = some (.slice A n c)) ∧ (w3.cell? ⟨w.heap.size + 1, 0, none⟩ = some (.int .i64 0) ∧ w3.cell? ⟨w.heap.size + 1, 1, none⟩ = some (.string { data := #[] }) ∧ w3.cell? ⟨w.heap.size + 1, 2, none⟩ = some (.int .i64 0) ∧ w3.cell? ⟨w.heap.size + 1, 3, none⟩ = some (.slice none 0 0)) ∧
   (w3.frozen? ⟨w.heap.size + 1, 0, none⟩ = false ∧ w3.frozen? ⟨w.heap.size + 1, 1, none⟩ = false ∧ w3.frozen? ⟨w.heap.size + 1, 2, none⟩ = false ∧ w3.frozen? ⟨w.heap.size + 1, 3, none⟩ = false)) := Lib.hid (fun w3 h3 => by
  have h4 := (h3.block _ (by omega)).trans hX0
  have h5 := (h3.block _ (by omega)).trans hY0
  exact ⟨by have := h3.size; omega, ⟨cell_of_row w3 _ 0 _ _ _ h4, cell_of_row w3 _ 1 _ _ _ h4⟩, ⟨cell_of_row w3 _ 0 _ _ _ h5, cell_of_row w3 _ 1 _ _ _ h5, cell_of_row w3 _ 2 _ _ _ h5, cell_of_row w3 _ 3 _ _ _ h5⟩, ⟨frozen_of_row w3 _ 0 _ _ h5, frozen_of_row w3 _ 1 _ _ h5, frozen_of_row w3 _ 2 _ _ h5, frozen_of_row w3 _ 3 _ _ h5⟩⟩)
 have HZR : Hid (r = false → ∀ (w4 : World) (u0 u1 u2 u3 : Value), Below w.heap.size w w4 → ∃ t' v', (Ending.returned (.tuple #[.agg #[.int .i64 0, .string { data := #[] }, .int .i64 0, .slice none 0 0], .bool false])) = .returned (.tuple #[aggT t' v', .bool r]) ∧ t' = orZ r (formG G op L) ∧ FormP N lo w.heap.size wl t' (set4 w4 (w.heap.size + 1) u0 u1 u2 u3) v' ∧ Below w.heap.size w (set4 w4 (w.heap.size + 1) u0 u1 u2 u3)) := Lib.hid (fun hrf w4 u0 u1 u2 u3 h4 =>
  ⟨zT, .slice none 0 0, by rw [hrf]; rfl, by rw [hrf]; rfl, formP_zero _ _ _ _ _, set4_belowB h4 (by omega) _ _ _ _⟩)
 have HCB := Lib.hid hcb
 have HR := Lib.hid hr
 have hX1 := cell_of_row W _ 0 _ _ _ hX0
 have hX2 := cell_of_row W _ 1 _ _ _ hX0
 cases cb with
 | false =>
  have HRF : Hid (r = false) := Lib.hid (by cases hrr : r with
   | false => rfl
   | true => exact absurd (HCB.out.2 (HR.out.1 hrr).1) (by simp))
  clear hs hold hM hn h hne hlo hsz hr hcb hL hm hml hbnd harg hG hop hX0 hY0 hb0 hz0
  go_enter Tryz.func40, Tryz.ntmps40
  go_wp2_with fail
  rw [← hW]
  clear hW
  refine (HCA.out W HB0.out).mono ?_
  rintro e w1 ⟨rfl, hb1⟩
  have HB1 := Lib.hid (HB0.out.trans (hb1.mono HB0.out.size))
  obtain ⟨hz1, ⟨x0, x1⟩, ⟨z0, z1, z2, z3⟩, ⟨f0, f1, f2, f3⟩⟩ := HWL.out w1 hb1
  clear hb1 hX1 hX2
  go_wp2
  refine bodyPost_ret (v := .tuple #[.agg #[.int .i64 0, .string { data := #[] }, .int .i64 0, .slice none 0 0], .bool false]) (by simp [results, Tryz.results40, go_sem, z0, z1, z2, z3]) rfl ?_
  exact HZR.out HRF.out w1 _ _ _ _ HB1.out
 | true =>
  obtain ⟨hc1, hc2, hc3⟩ := hcb.1 rfl
  obtain ⟨k, hk⟩ : ∃ k : Nat, op = (k : Int) := ⟨op.toNat, by omega⟩
  have hkn : k < n := by omega
  obtain ⟨ge, oe, A2, c2, hA, hge, hcs, _⟩ := ope_at hM.e hkn
  obtain ⟨hG1, hG2, hG3, hG4⟩ := hG k (by omega)
  obtain ⟨⟨⟨nm, ds, a, b, u⟩, i, s0, s1, s2, s3, s4⟩, hx⟩ : ∃ x, x = G.E.getD k default := ⟨_, rfl⟩
  have hFG : formG G op L = formM u a b k L := by unfold formG; rw [hk, Int.toNat_natCast, ← hx]
  rw [← hx] at hcs hG1 hG2 hG3 hG4
  simp only [] at hG1 hG2 hG3 hG4
  subst hG1
  have hne' : ∀ x ∈ R0, a = true → x.1.op = (i : Int) → x.1.args ≠ [] := fun x hx2 ha ho => hne x hx2 i hkn (by rw [← hx]; exact ha) ho
  have hwn : w.heap.size ≤ W.heap.size := by omega
  have HFO := Lib.hid (fun W' (hW' : Below w.heap.size w W') => form_any (N := N) (lo := lo) nm A2 ds.length c2 a b u hG4 hG3 i s0 s1 s2 s3 s4 R0 (.slice A1 R0.length c1) wl W' (hs.trans (Sub.below hW')) (by have := hW'.size; omega) (h.sub (Sub.below hW')) hne' (by have := hW'.size; omega) (by rw [← hL]; exact hsz))
  rw [← hL, ← hm] at HFO
  have hbf : Bnd (formM u a b i L) := by rw [hL]; exact bnd_form hG4 hG3 (by obtain ⟨h1, h2⟩ := hop; omega) hbnd harg
  have hszf : sizes (formM u a b i L).args ≤ 1048576 := Nat.le_trans (sizes_form u a b i L) hsz
  obtain ⟨ft, hft⟩ : ∃ ft, ft = formM u a b i L := ⟨_, rfl⟩
  rw [← hft] at HFO hbf hszf hFG
  have HWI := Lib.hid (fun W' v' (hv' : HasTs (N + 1) lo W' v' ft.args) => within_any (W0 := W') (w := W') ft v' hv' hbf hszf (Below.refl _ _))
  have HRT : Hid (r = true ↔ LimT ft) := Lib.hid (by rw [hr, hFG]; exact ⟨fun h => h.2, fun h => ⟨hcb.1 rfl, h⟩⟩)
  have HFG := Lib.hid hFG
  obtain ⟨dl, hdl⟩ : ∃ q, q = ds.length := ⟨_, rfl⟩
  rw [← hdl] at HFO
  subst hA
  have kW : ∀ {q : Nat} {v : Value}, w.cell? ⟨ge, q, none⟩ = some v → ∀ w3, Below W.heap.size W w3 → w3.cell? ⟨ge, q, none⟩ = some v := fun {q v} h w3 h3 => ((hb0.trans (h3.mono hwn)).cell (p := ⟨ge, q, none⟩) hge).trans h
  have HE : Hid (∀ w3, Below W.heap.size W w3 → w3.cell? ⟨ge, oe + i * 11, none⟩ = some (.string (bstr nm)) ∧ w3.cell? ⟨ge, oe + i * 11 + 1, none⟩ = some (.slice A2 dl c2) ∧ w3.cell? ⟨ge, oe + i * 11 + 2, none⟩ = some (.bool a) ∧ w3.cell? ⟨ge, oe + i * 11 + 3, none⟩ = some (.bool b) ∧ w3.cell? ⟨ge, oe + i * 11 + 4, none⟩ = some (.int .i64 u) ∧ w3.cell? ⟨ge, oe + i * 11 + 5, none⟩ = some (.int .i64 (i : Int)) ∧
    w3.cell? ⟨ge, oe + i * 11 + 6, none⟩ = some (.int .i64 (s0 : Int)) ∧ w3.cell? ⟨ge, oe + i * 11 + 7, none⟩ = some (.int .u16 (s1 : Int)) ∧ w3.cell? ⟨ge, oe + i * 11 + 8, none⟩ = some (.int .u16 (s2 : Int)) ∧ w3.cell? ⟨ge, oe + i * 11 + 9, none⟩ = some (.int .u16 (s3 : Int)) ∧ w3.cell? ⟨ge, oe + i * 11 + 10, none⟩ = some (.int .u16 (s4 : Int))) := Lib.hid (fun w3 h3 =>
   ⟨kW (hcs 0 (by omega)) w3 h3, kW (by rw [hdl]; exact hcs 1 (by omega)) w3 h3, kW (hcs 2 (by omega)) w3 h3, kW (hcs 3 (by omega)) w3 h3, kW (hcs 4 (by omega)) w3 h3, kW (hcs 5 (by omega)) w3 h3, kW (hcs 6 (by omega)) w3 h3, kW (hcs 7 (by omega)) w3 h3, kW (hcs 8 (by omega)) w3 h3, kW (hcs 9 (by omega)) w3 h3, kW (hcs 10 (by omega)) w3 h3⟩)
  have i1 : (0 : Int) ≤ (i : Int) := by omega
  have i2 : (i : Int) < (n : Int) := by omega
  have HZW : Hid (W.heap.size = w.heap.size + 2) := Lib.hid hz0
  have HSB : Hid (∀ w3, Below w.heap.size w w3 → Sub wl w3) := Lib.hid (fun w3 h3 => hs.trans (Sub.below h3))
  rw [hk] at HCA ⊢
  rw [hk] at HZR
  rw [hk] at HFG
  clear hs hold hM hn h hne hlo hsz hr hcb hL hm hml hbnd harg hG hop hX0 hY0 hb0 hc1 hc2 hc3 hge hcs hx hFG hG2 hG3 hG4 hne' hwn hbf hszf hft hdl kW hkn hz0 HR HCB
  subst hk
  go_enter Tryz.func40, Tryz.ntmps40
  go_wp2_with fail
  rw [← hW]
  clear hW
  refine (HCA.out W HB0.out).mono ?_
  rintro e w1 ⟨rfl, hb1⟩
  have HB1 := Lib.hid (HB0.out.trans (hb1.mono HB0.out.size))
  obtain ⟨hz1, ⟨x0, x1⟩, _, _⟩ := HWL.out w1 hb1
  obtain ⟨e0, e1, e2, e3, e4, e5, e6, e7, e8, e9, e10⟩ := HE.out w1 hb1
  have HB1W := Lib.hid hb1
  clear hb1 hX1 hX2
  go_wp2_with fail
  refine (HFO.out w1 HB1.out).mono ?_
  rintro e w2 ⟨v2, rfl, hfp, hb2⟩
  have HB2 := Lib.hid (HB1.out.trans (hb2.mono HB1.out.size))
  have HB2W := Lib.hid (HB1W.out.trans (hb2.mono HB1W.out.size))
  have hz2 := hb2.size
  have hv2 := hfp w2 (HSB.out w2 HB2.out) (Kept.refl _ _)
  obtain ⟨A5, c5, rfl, _⟩ := HasR.shape hv2 rfl
  have HFP : Hid (FormP N lo w1.heap.size wl ft w2 (.slice A5 ft.args.length c5)) := Lib.hid hfp
  have HV2 := Lib.hid hv2
  obtain ⟨to, hto⟩ : ∃ q, q = ft.op := ⟨_, rfl⟩
  obtain ⟨tn, htn⟩ : ∃ q, q = ft.name := ⟨_, rfl⟩
  obtain ⟨ts, hts⟩ : ∃ q, q = ft.sort := ⟨_, rfl⟩
  obtain ⟨q, hq⟩ : ∃ q, q = ft.args.length := ⟨_, rfl⟩
  have HQQ := Lib.hid (And.intro hto (And.intro htn (And.intro hts hq)))
  unfold aggT
  rw [← hto, ← htn, ← hts, ← hq]
  clear hfp hb2 hv2 x0 x1 e0 e1 e2 e3 e4 e5 e6 e7 e8 e9 e10 hto htn hts hq
  go_wp2_with fail
  obtain ⟨W3, hW3⟩ : ∃ W3, W3 = w2.alloc (.cells #[.int .i64 to, .string (bstr tn), .int .i64 ts, .slice A5 q c5] 34) := ⟨_, rfl⟩
  try rw [← hW3]
  have hb3 : Below w2.heap.size w2 W3 := by rw [hW3]; exact (Below.refl _ _).alloc (Nat.le_refl _) _
  have hz3 : W3.heap.size = w2.heap.size + 1 := by rw [hW3]; simp
  have hY3 : W3.heap[w2.heap.size]? = some (.cells #[.int .i64 to, .string (bstr tn), .int .i64 ts, .slice A5 q c5] 34 (0, 0)) := by rw [hW3]; exact termt.heap_at _ _ _ rfl
  obtain ⟨e1, e2, e3, e4⟩ := HQQ.out
  have hwi := HWI.out W3 (.slice A5 q c5) (by rw [e4]; exact HV2.out.below (Nat.le_refl _) hb3)
  unfold aggT at hwi
  rw [← e1, ← e2, ← e3] at hwi
  clear hW3 e1 e2 e3 e4
  refine hwi.mono ?_
  rintro e w4 ⟨r4, rfl, hr4, hb4⟩
  have hr : r = r4 := by rw [Bool.eq_iff_iff, HRT.out, hr4]
  subst hr
  have HB3 : Hid (Below w2.heap.size w2 w4) := Lib.hid (hb3.trans (hb4.mono hb3.size))
  have HB4 : Hid (Below w.heap.size w w4) := Lib.hid (HB2.out.trans (HB3.out.mono HB2.out.size))
  obtain ⟨hz4, _, ⟨z0, z1, z2, z3⟩, ⟨f0, f1, f2, f3⟩⟩ := HWL.out w4 (HB2W.out.trans (HB3.out.mono HB2W.out.size))
  have hy4 := (hb4.block _ (by omega)).trans hY3
  have x0 := cell_of_row w4 _ 0 _ _ _ hy4
  have x1 := cell_of_row w4 _ 1 _ _ _ hy4
  have x2 := cell_of_row w4 _ 2 _ _ _ hy4
  have x3 := cell_of_row w4 _ 3 _ _ _ hy4
  have hne4 : w.heap.size + 1 ≠ w2.heap.size := by omega
  clear hb3 hz3 hY3 hb4 hy4 hwi hr4 HE HWL HWI HRT
  cases r with
  | false =>
   go_wp2
   refine bodyPost_ret (v := .tuple #[.agg #[.int .i64 0, .string { data := #[] }, .int .i64 0, .slice none 0 0], .bool false]) (by simp [results, Tryz.results40, go_sem, z0, z1, z2, z3]) rfl ?_
   exact HZR.out (by trivial) w4 _ _ _ _ HB4.out
  | true =>
   have HFN : Hid (∀ u0 u1 u2 u3, ∃ t' v', (Ending.returned (.tuple #[.agg #[.int .i64 to, .string (bstr tn), .int .i64 ts, .slice A5 q c5], .bool true])) = .returned (.tuple #[aggT t' v', .bool true]) ∧ t' = orZ true (formG G (i : Int) L) ∧ FormP N lo w.heap.size wl t' (set4 w4 (w.heap.size + 1) u0 u1 u2 u3) v' ∧ Below w.heap.size w (set4 w4 (w.heap.size + 1) u0 u1 u2 u3)) := Lib.hid (fun u0 u1 u2 u3 => by
    obtain ⟨e1, e2, e3, e4⟩ := HQQ.out
    refine ⟨ft, .slice A5 q c5, by unfold aggT; rw [← e1, ← e2, ← e3], by rw [HFG.out]; rfl, ?_, set4_belowB HB4.out (by omega) _ _ _ _⟩
    rw [e4]
    exact FormP.later (FormP.later (B := w1.heap.size) (B' := w1.heap.size) HFP.out (Kept.below HB3.out (Nat.le_refl _)) (Nat.le_refl _)) (set4_kept (x := w.heap.size + 1) (by omega) u0 u1 u2 u3) (by omega))
   clear HFP HQQ HV2
   go_wp2
   refine bodyPost_ret (v := .tuple #[.agg #[.int .i64 to, .string (bstr tn), .int .i64 ts, .slice A5 q c5], .bool true]) (by simp [results, Tryz.results40, go_sem, z0, z1, z2, z3]) rfl ?_
   exact HFN.out _ _ _ _
end Go.Proofs.YtkkmjaggebjcbaaGreat.tmg
/-
 impl.MakeTerm.
-/
namespace Go.Proofs.YtkkmjaggebjcbaaGreat.tmi
open Go.ChangeShapes Go.WideShapes Go.ChangeAt Go.RowKit
open mem dec setm sets sortm sortn sortp sorti sortf sortu sortg sigm sigs sigt sigl rowl trm trmv terml termb termt termx termz termro termsd termvr termvo termev termpr termpw termcy frm termlm sigi sigj sigk gram gramo graml gramk gramc gramn gramt grami formlf formnd formk formr formf formm termcl tma tmm tmr tsk tsl tmb tmd tmf tmg tmc

section
variable {P : List (List UInt8)} {Q : List (Int × Int)} {O : List OpM}
/-- the arguments are terms, and their number and kinds, and what is made of them, right -/
def MakeOk (P : List (List UInt8)) (Q : List (Int × Int)) (O : List OpM) (op : Int) (L : List TermM) : Prop :=
 sigOk P Q O = true ∧ (0 ≤ op ∧ op < O.length) ∧ (∀ a ∈ L, FormS P Q O a ∧ LimT a) ∧ CanS P Q O op.toNat L ∧ LimT (formO O op.toNat L)
theorem gterm_two {a : TermM} (h : GTerm (grM P Q O) a) : FormS P Q O a ∧ LimT a := ⟨((gterm_iff a).1 h).2.2, h.1⟩
theorem formG_eq (hok : sigOk P Q O = true) {k : Nat} (hk : k < O.length) (L : List TermM) : formG (grM P Q O) (k : Int) L = formO O k L := by
 unfold formG formO
 rw [Int.toNat_natCast, grE_at hok hk]
theorem make_iff (op : Int) (L : List TermM) : MakeOk P Q O op L ↔ (∀ a ∈ L, GTerm (grM P Q O) a) ∧ CanP (grM P Q O) op L ∧ LimT (formG (grM P Q O) op L) := by
 constructor
 ·rintro ⟨hok, hr, hA, hC, hl⟩
  obtain ⟨k, hk⟩ : ∃ k : Nat, op = (k : Int) := ⟨op.toNat, by omega⟩
  have hkl : k < O.length := by omega
  rw [hk, Int.toNat_natCast] at hC hl
  rw [hk]
  exact ⟨fun a ha => (gterm_iff a).2 ⟨hok, ⟨(hA a ha).2.1, (hA a ha).2.2.1⟩, (hA a ha).1⟩, (can_iff hok hkl L (fun a ha => range_of_node ((formS_eta P Q O a).1 (hA a ha).1).1)).2 hC, by rw [formG_eq hok hkl]; exact hl⟩
 ·rintro ⟨hA, hC, hl⟩
  by_cases hok : sigOk P Q O = true
  ·have hE : (grM P Q O).E.length = O.length := by rw [grM_ok hok]; exact opsE_len _ _
   have hr := hC.1
   rw [hE] at hr
   obtain ⟨k, hk⟩ : ∃ k : Nat, op = (k : Int) := ⟨op.toNat, by omega⟩
   have hkl : k < O.length := by omega
   rw [hk] at hC hl hr
   rw [formG_eq hok hkl] at hl
   have hA' := fun a ha => gterm_two (hA a ha)
   refine ⟨hok, by omega, hA', ?_, ?_⟩
   ·rw [hk, Int.toNat_natCast]
    exact (can_iff hok hkl L (fun a ha => range_of_node ((formS_eta P Q O a).1 (hA' a ha).1).1)).1 hC
   ·rw [hk, Int.toNat_natCast]; exact hl
  ·have hg : grM P Q O = ⟨[], []⟩ := by unfold grM; rw [if_neg hok]
   rw [hg] at hC
   have := hC.1
   simp only [List.length_nil] at this
   omega
/-- what MakeTerm makes -/
noncomputable def makeT (O : List OpM) (op : Int) (L : List TermM) (z : Bool) : TermM := orZ z (formO O op.toNat L)
theorem gterm_ne {G : GrM} {x : TermM} (h : GTerm G x) {k : Nat} (ha : (G.E.getD k default).1.ass = true) (ho : x.op = (k : Int)) : x.args ≠ [] := by
 have h1 := ((allN_eta _ x).1 h.2).1
 unfold NodeP at h1
 rw [if_neg (by omega)] at h1
 have h2 := h1.2.1.2.1
 rw [ho, Int.toNat_natCast] at h2
 unfold takesB at h2
 rw [if_pos ha] at h2
 have h3 := of_decide_eq_true h2
 intro e
 rw [e] at h3
 simp at h3
end
set_option maxRecDepth 50000 in
set_option maxHeartbeats 8000000 in
theorem iMake_any {N lo : Nat} (P : List (List UInt8)) (Q : List (Int × Int)) (O : List OpM) (va vb vc : Value) (op : Int) (hop : I64 op) (L : List TermM) (ve : Value) (w : World) (h : HasG w va vb vc P Q O) (ht : HasTs (N + 1) lo w ve L) (hsz : sizes L ≤ 1048576) (z : Bool) (hz : z = true ↔ MakeOk P Q O op L) :
  Calls Tryz.prog 11 #[.agg #[va, vb, vc], .int .i64 op, ve] w fun e w' => ∃ v' S, e = .returned (.tuple #[aggT (makeT O op L z) v', .bool z]) ∧ OT 34 (depth (makeT O op L z)) w.heap.size w' v' (makeT O op L z).args S ∧ Below w.heap.size w w' := by
 have HGR := Lib.hid (fun W (hW : Below w.heap.size w W) => grammarOf_any P Q O va vb vc W (h.below (Nat.le_refl _) hW))
 obtain ⟨G, hG⟩ : ∃ G, G = grM P Q O := ⟨_, rfl⟩
 have hGO : GrOk G := by rw [hG]; exact grOk_gr P Q O
 have hz2 : z = true ↔ (∀ a ∈ L, GTerm G a) ∧ CanP G op L ∧ LimT (formG G op L) := by rw [hz, hG]; exact make_iff op L
 have hmk : makeT O op L z = orZ z (formG G op L) := by
  unfold makeT orZ
  by_cases hzt : z = true
  ·rw [if_pos hzt, if_pos hzt]
   have hm := hz.1 hzt
   obtain ⟨k, hk⟩ : ∃ k : Nat, op = (k : Int) := ⟨op.toNat, by have := hm.2.1; omega⟩
   have := hm.2.1
   rw [hk, Int.toNat_natCast, hG]
   exact (formG_eq hm.1 (by omega) L).symm
  ·rw [if_neg hzt, if_neg hzt]
 have HZ := Lib.hid hz2
 rw [hmk]
 obtain ⟨R0, hR0, hrow⟩ := RowIn.of_has ht
 have hrow0 : RowIn N 0 w w ve R0 := by
  obtain ⟨A, c, e, h1, h2, h3, h4⟩ := hrow
  exact ⟨A, c, e, h1, h2, h3, fun x hx => ⟨(h4 x hx).1.mono (RT_steady N) (Nat.zero_le _), (h4 x hx).2⟩⟩
 rw [← hG] at HGR
 obtain ⟨cb, hcb⟩ : ∃ cb : Bool, cb = true ↔ CanP G op L ∧ LimT (formG G op L) := by
  by_cases hq : CanP G op L ∧ LimT (formG G op L)
  ·exact ⟨true, fun _ => hq, fun _ => rfl⟩
  ·exact ⟨false, fun e => absurd e (by simp), fun e => absurd e hq⟩
 have HAP : Hid ((∀ a ∈ L, GTerm G a) → ∀ W mm A c, Below w.heap.size w W → HasM W (.map mm) (.slice A G.E.length c) G → Calls Tryz.prog 40 #[.agg #[.map mm, .slice A G.E.length c], .int .i64 op, ve] W fun e w' => ∃ t' v', e = .returned (.tuple #[aggT t' v', .bool cb]) ∧ t' = orZ cb (formG G op L) ∧ FormP N 0 W.heap.size w t' w' v' ∧ Below W.heap.size W w') := Lib.hid (fun hall W mm A c hW hM => by
  have := applied_any (N := N) (lo := 0) G hGO mm A G.E.length c op hop R0 ve w W (Sub.below hW) hW.size hM rfl (hrow0.sub (Sub.below hW)) (fun x hx k hk ha ho => gterm_ne (hall x.1 (by rw [← hR0]; exact List.mem_map.2 ⟨x, hx, rfl⟩)) ha ho) (Nat.zero_le _) (by rw [hR0]; exact hsz) cb (by rw [hR0]; exact hcb)
  rw [hR0] at this
  exact this)
 have HIT : Hid (∀ W mm A c (t : TermM) (vt : Value) n' lo', HasM W (.map mm) (.slice A G.E.length c) G → HasTs n' lo' W vt t.args → Bnd t → sizes t.args ≤ 1048576 → Calls Tryz.prog 39 #[.agg #[.map mm, .slice A G.E.length c], aggT t vt] W fun e w' => ∃ r, e = .returned (.bool r) ∧ (r = true ↔ GTerm G t) ∧ Below W.heap.size W w') := Lib.hid (fun W mm A c t vt n' lo' hM hx hB hs => isTerm_any G hGO (.map mm) A _ c t vt W hM rfl hx hB hs)
 have hsf : size (orZ z (formG G op L)) ≤ 1073741823 ∧ size (orZ cb (formG G op L)) ≤ 1073741823 := by
  have h1 : size (formG G op L) ≤ 1 + sizes L := size_formM _ _ _ _ _
  have h2 : size zT = 1 := by unfold zT; rw [size_mk]; rfl
  constructor <;> (unfold orZ; split <;> omega)
 obtain ⟨A1, c1, A2, c2, A3, c3, rfl, rfl, rfl, _⟩ := h.shape
 obtain ⟨m1, hm1⟩ : ∃ q, q = P.length := ⟨_, rfl⟩
 obtain ⟨m2, hm2⟩ : ∃ q, q = Q.length := ⟨_, rfl⟩
 obtain ⟨m3, hm3⟩ : ∃ q, q = O.length := ⟨_, rfl⟩
 rw [← hm1, ← hm2, ← hm3] at HGR ⊢
 obtain ⟨m, hm⟩ : ∃ m, m = L.length := ⟨_, rfl⟩
 obtain ⟨B, cB, rfl, _⟩ := HasR.shape ht hm.symm
 have hml := sizes_len L
 have hm20 : m ≤ 1048576 := by omega
 have HH := Lib.hid ht
 have HMM := Lib.hid hm
 have HSZ := Lib.hid hsz
 have HCB := Lib.hid hcb
 have HSF := Lib.hid hsf
 obtain ⟨ff, hff⟩ : ∃ ff, ff = formG G op L := ⟨_, rfl⟩
 rw [← hff] at HAP HSF ⊢
 clear h ht hsz hz hz2 hmk hR0 hrow hrow0 hcb hm1 hm2 hm3 hml hm hsf hff hop hGO hG
 obtain ⟨W, hW⟩ : ∃ W, W = (w.alloc (.cells #[.slice A1 m1 c1, .slice A2 m2 c2, .slice A3 m3 c3] 42)).alloc (.cells #[.int .i64 0, .string { data := #[] }, .int .i64 0, .slice none 0 0] 34) := ⟨_, rfl⟩
 have hb0 : Below w.heap.size w W := by
  rw [hW]
  repeat (first | exact Below.refl _ _ | refine Below.alloc ?_ (by first | (simp; done) | (simp; omega)) _)
 have hz0 : W.heap.size = w.heap.size + 2 := by rw [hW]; simp
 have hY0 : W.heap[w.heap.size + 1]? = some (.cells #[.int .i64 0, .string { data := #[] }, .int .i64 0, .slice none 0 0] 34 (0, 0)) := by rw [hW]; exact termt.heap_at _ _ _ (by simp)
 have hX0 := tsl.box3 (show W.heap[w.heap.size]? = some (.cells #[.slice A1 m1 c1, .slice A2 m2 c2, .slice A3 m3 c3] 42 (0, 0)) by rw [hW]; exact tsl.heap2a _ _ _)
 have HB0 := Lib.hid hb0
 obtain ⟨x0, x1, x2⟩ := hX0
 go_enter Tryz.func11, Tryz.ntmps11
 go_wp2_with fail
 rw [← hW]
 clear hW
 refine (HGR.out _ HB0.out).mono ?_
 rintro e w1 ⟨mv, A, c, rfl, hM, _, hb1⟩
 obtain ⟨mm, rfl⟩ := mapU_shape hM.m
 have HM := Lib.hid hM
 have HB1 := Lib.hid (HB0.out.trans (hb1.mono HB0.out.size))
 have hz1 : w.heap.size + 2 ≤ w1.heap.size := by have := hb1.size; omega
 have hY1 := (hb1.block _ (by omega)).trans hY0
 obtain ⟨gl, hgl⟩ : ∃ gl, gl = G.E.length := ⟨_, rfl⟩
 rw [← hgl] at HM HAP HIT ⊢
 clear hM hb1 x0 x1 x2 hY0 hz0 hb0 hgl
 go_wp2
 obtain ⟨W2, hW2⟩ : ∃ W2, W2 = w1.alloc (.cells #[.map mm, .slice A gl c] 78) := ⟨_, rfl⟩
 have hb2 : Below w1.heap.size w1 W2 := by rw [hW2]; exact (Below.refl _ _).alloc (Nat.le_refl _) _
 have hz2 : W2.heap.size = w1.heap.size + 1 := by rw [hW2]; simp
 have hG2 : W2.heap[w1.heap.size]? = some (.cells #[.map mm, .slice A gl c] 78 (0, 0)) := by rw [hW2]; exact termt.heap_at _ _ _ rfl
 have HM2 := Lib.hid (HM.out.below hb2)
 have HB2 := Lib.hid (HB1.out.trans (hb2.mono HB1.out.size))
 have HY2 := Lib.hid ((hb2.block _ (by omega)).trans hY1)
 have HG2 := Lib.hid hG2
 have hw2 : w.heap.size + 3 ≤ W2.heap.size := by omega
 have hw12 : w1.heap.size < W2.heap.size := by omega
 try rw [← hW2]
 clear hW2 hb2 hz2 hG2 hY1 HM HB1
 have HW2 : Hid (∀ w3, Below W2.heap.size W2 w3 → W2.heap.size ≤ w3.heap.size ∧ Below w.heap.size w w3 ∧ HasM w3 (.map mm) (.slice A gl c) G ∧ (w3.cell? ⟨w1.heap.size, 0, none⟩ = some (.map mm) ∧ w3.cell? ⟨w1.heap.size, 1, none⟩ = some (.slice A gl c)) ∧ (w3.cell? ⟨w.heap.size + 1, 0, none⟩ = some (.int .i64 0) ∧ w3.cell? ⟨w.heap.size + 1, 1, none⟩ = some (.string { data := #[] }) ∧ w3.cell? ⟨w.heap.size + 1, 2, none⟩ = some (.int .i64 0) ∧ w3.cell? ⟨w.heap.size + 1, 3, none⟩ = some (.slice none 0 0)) ∧
   (w3.frozen? ⟨w.heap.size + 1, 0, none⟩ = false ∧ w3.frozen? ⟨w.heap.size + 1, 1, none⟩ = false ∧ w3.frozen? ⟨w.heap.size + 1, 2, none⟩ = false ∧ w3.frozen? ⟨w.heap.size + 1, 3, none⟩ = false)) := Lib.hid (fun w3 h3 => by
  have h4 := (h3.block _ hw12).trans HG2.out
  have h5 := (h3.block _ (by omega)).trans HY2.out
  exact ⟨h3.size, HB2.out.trans (h3.mono HB2.out.size), HM2.out.below h3, ⟨cell_of_row w3 _ 0 _ _ _ h4, cell_of_row w3 _ 1 _ _ _ h4⟩, ⟨cell_of_row w3 _ 0 _ _ _ h5, cell_of_row w3 _ 1 _ _ _ h5, cell_of_row w3 _ 2 _ _ _ h5, cell_of_row w3 _ 3 _ _ _ h5⟩, ⟨frozen_of_row w3 _ 0 _ _ h5, frozen_of_row w3 _ 1 _ _ h5, frozen_of_row w3 _ 2 _ _ h5, frozen_of_row w3 _ 3 _ _ h5⟩⟩)
 clear HG2 HY2 HM2 HB2
 go_loopw [10, 17] (fun _ v17 wr => ∃ j : Nat, v17 = .int .i64 j ∧ j ≤ m ∧ Hid (∀ i, i < j → GTerm G (L.getD i default)) ∧ Hid (Below W2.heap.size W2 wr)) (fun _ i _ => m - (intOf i).toNat)
 case atStart => exact ⟨0, rfl, Nat.zero_le _, Lib.hid (fun i hi => absurd hi (Nat.not_lt_zero _)), Lib.hid (Below.refl _ _)⟩
 case round =>
  obtain ⟨j, rfl, hj, HALL, HB⟩ := hrel
  by_cases hlt : j < m
  ·have d1 : decide ((j : Int) < (m : Int)) = true := decide_eq_true (by omega)
   obtain ⟨kn, g, o, B2, cx, hNk, rfl, _, hg, f0, f1, f2, f3, hxx, hbx⟩ := term_at HH.out hlt
   obtain rfl : N = kn := by omega
   obtain ⟨hr1, hr2, _⟩ := HW2.out wr HB.out
   rw [← hr2.cell (p := ⟨g, o + j * 4, none⟩) hg] at f0
   rw [← hr2.cell (p := ⟨g, o + j * 4 + 1, none⟩) hg] at f1
   rw [← hr2.cell (p := ⟨g, o + j * 4 + 2, none⟩) hg] at f2
   rw [← hr2.cell (p := ⟨g, o + j * 4 + 3, none⟩) hg] at f3
   have hxr := hxx.below (Nat.le_refl _) hr2
   have hjL : j < L.length := by have := HMM.out; omega
   have hsx : sizes (L.getD j default).args ≤ 1048576 := by
    have h9 := size_le_sizes hjL
    have h10 := termro.size_eq (L.getD j default)
    have := HSZ.out
    omega
   have hmem : L.getD j default ∈ L := by rw [getD_at hjL]; exact List.getElem_mem _
   obtain ⟨x, hx⟩ : ∃ x, x = L.getD j default := ⟨_, rfl⟩
   have HXD := Lib.hid hx
   rw [← hx] at f0 f1 f2 f3 hxr hbx hsx hmem
   obtain ⟨xl, hxl⟩ : ∃ xl, xl = x.args.length := ⟨_, rfl⟩
   rw [← hxl] at f3
   obtain ⟨V, hV⟩ : ∃ V, V = wr.alloc (.cells #[.int .i64 x.op, .string (bstr x.name), .int .i64 x.sort, .slice B2 xl cx] 34) := ⟨_, rfl⟩
   have hbV : Below wr.heap.size wr V := by rw [hV]; exact (Below.refl _ _).alloc (Nat.le_refl _) _
   have HBV : Hid (Below W2.heap.size W2 V) := Lib.hid (HB.out.trans (hbV.mono hr1))
   obtain ⟨_, hv2, hMV, ⟨c0, c1'⟩, _, _⟩ := HW2.out V HBV.out
   have HC := Lib.hid (HIT.out V mm A c x (.slice B2 xl cx) _ _ hMV (by rw [hxl]; rw [← hxl]; exact (hxl ▸ hxr).below (Nat.le_refl _) hbV) hbx hsx)
   have c00 : ∀ ob, (wr.alloc ob).cell? ⟨w1.heap.size, 0, none⟩ = some (.map mm) := fun ob => (HW2.out _ (HB.out.alloc hr1 ob)).2.2.2.1.1
   have c11 : ∀ ob, (wr.alloc ob).cell? ⟨w1.heap.size, 1, none⟩ = some (.slice A gl c) := fun ob => (HW2.out _ (HB.out.alloc hr1 ob)).2.2.2.1.2
   have i1 : (0 : Int) ≤ (j : Int) := by omega
   have i2 : (j : Int) < (m : Int) := by omega
   unfold aggT at HC
   clear hNk hr2 hxx hxr hbx hsx hx hxl hMV hv2
   clear c0 c1'
   go_wp2_with fail
   rw [← hV]
   clear hV c00 c11 f0 f1 f2 f3
   refine HC.out.mono ?_
   rintro e w3 ⟨r, rfl, hr, hb3⟩
   have HB3 : Hid (Below W2.heap.size W2 w3) := Lib.hid (HBV.out.trans (hb3.mono HBV.out.size))
   obtain ⟨_, hv3, _, _, ⟨z0, z1, z2, z3⟩, ⟨q0, q1, q2, q3⟩⟩ := HW2.out w3 HB3.out
   have HV3 := Lib.hid hv3
   have HRX := Lib.hid hr
   clear hb3 hv3 hr HC hbV
   cases r with
   | false =>
    have HZF : Hid (z = false) := Lib.hid (by cases hzz : z with
     | false => rfl
     | true => exact absurd (HRX.out.2 ((HZ.out.1 hzz).1 x hmem)) (by simp))
    have HFN : Hid (∀ u0 u1 u2 u3, ∃ v' S, (Ending.returned (.tuple #[.agg #[.int .i64 0, .string { data := #[] }, .int .i64 0, .slice none 0 0], .bool false])) = .returned (.tuple #[aggT (orZ z ff) v', .bool z]) ∧ OT 34 (depth (orZ z ff)) w.heap.size (set4 w3 (w.heap.size + 1) u0 u1 u2 u3) v' (orZ z ff).args S ∧ Below w.heap.size w (set4 w3 (w.heap.size + 1) u0 u1 u2 u3)) := Lib.hid (fun u0 u1 u2 u3 => by
     have e1 : orZ false ff = zT := rfl
     have e2 : depth zT = 0 + 1 := by unfold zT; rw [depth_mk]; rfl
     refine ⟨.slice none 0 0, [], by rw [HZF.out]; rfl, ?_, set4_belowB HV3.out (by omega) _ _ _ _⟩
     rw [HZF.out, e1, e2]
     exact OT.nil _ _ _ _)
    clear hmem
    go_wp2
    refine bodyPost_ret (v := .tuple #[.agg #[.int .i64 0, .string { data := #[] }, .int .i64 0, .slice none 0 0], .bool false]) (by simp [results, Tryz.results11, go_sem, z0, z1, z2, z3]) rfl ?_
    exact HFN.out _ _ _ _
   | true =>
    have HALL2 : Hid (∀ i, i < j + 1 → GTerm G (L.getD i default)) := Lib.hid (fun i hi => by
     by_cases e : i = j
     ·subst e; rw [← HXD.out]; exact HRX.out.1 (by trivial)
     ·exact HALL.out i (by omega))
    clear hmem z0 z1 z2 z3 q0 q1 q2 q3
    go_wp2
    go_roundw
    case rel => exact ⟨j + 1, by go_num, by omega, HALL2, HB3⟩
    case measure => simp [intOf]; omega
  ·have d1 : decide ((j : Int) < (m : Int)) = false := decide_eq_false (by omega)
   have HAA : Hid (∀ a ∈ L, GTerm G a) := Lib.hid (fun a ha => by
    obtain ⟨i, hi, e⟩ := List.getElem_of_mem ha
    have h9 := HALL.out i (by have := HMM.out; omega)
    rw [getD_at hi, e] at h9
    exact h9)
   have HZC : Hid (z = cb) := Lib.hid (by rw [Bool.eq_iff_iff, HZ.out, HCB.out]; exact ⟨fun h => h.2, fun h => ⟨HAA.out, h⟩⟩)
   obtain ⟨hr1, hr2, hMr, ⟨c0, c1'⟩, _, _⟩ := HW2.out wr HB.out
   have HC := Lib.hid (HAP.out HAA.out wr mm A c hr2 hMr)
   clear hMr
   go_wp2_with fail
   refine HC.out.mono ?_
   rintro e w5 ⟨t', v', rfl, ht', hfp, hb5⟩
   have HB5 : Hid (Below W2.heap.size W2 w5) := Lib.hid (HB.out.trans (hb5.mono hr1))
   have hv5 := hfp w5 (Sub.below (hr2.trans (hb5.mono hr2.size))) (Kept.refl _ _)
   have hst : size t' ≤ 1073741823 := by rw [ht']; exact HSF.out.2
   have HT' : Hid (orZ z ff = t') := Lib.hid (by rw [HZC.out, ht'])
   have hr5 := HB5.out.size
   obtain ⟨A5, c5, rfl, _⟩ := HasR.shape hv5 rfl
   have HBY : Hid (∀ ob, Below w5.heap.size w5 (w5.alloc ob)) := Lib.hid (fun ob => (Below.refl _ _).alloc (Nat.le_refl _) ob)
   have HCY := Lib.hid (fun ob => icopy_any (N := N + 1) (lo := 0) t' (.slice A5 t'.args.length c5) (w5.alloc ob) (hv5.below (Nat.le_refl _) ((Below.refl _ _).alloc (Nat.le_refl _) ob)) hst)
   unfold aggT at HCY ⊢
   obtain ⟨to, hto⟩ : ∃ q, q = t'.op := ⟨_, rfl⟩
   obtain ⟨tn, htn⟩ : ∃ q, q = t'.name := ⟨_, rfl⟩
   obtain ⟨ts, hts⟩ : ∃ q, q = t'.sort := ⟨_, rfl⟩
   obtain ⟨tl, htl⟩ : ∃ q, q = t'.args.length := ⟨_, rfl⟩
   have HQQ := Lib.hid (And.intro hto (And.intro htn (And.intro hts htl)))
   rw [← hto, ← htn, ← hts] at HCY ⊢
   rw [← htl] at HCY ⊢
   clear ht' hfp hb5 hv5 hst hto htn hts htl c0 c1' hr2
   go_wp2_with fail
   refine (HCY.out _).mono ?_
   rintro e w7 ⟨v7, S7, rfl, hot7, hb7'⟩
   have hb7 := (HBY.out _).trans (hb7'.mono (HBY.out _).size)
   have hsy := (HBY.out (.cells #[.int .i64 to, .string (bstr tn), .int .i64 ts, .slice A5 tl c5] 34)).size
   obtain ⟨_, hv7', _, _, ⟨z0, z1, z2, z3⟩, ⟨q0, q1, q2, q3⟩⟩ := HW2.out w7 (HB5.out.trans (hb7.mono hr5))
   have hsz7 := hb7.size
   have hdp : depth t' = depths t'.args + 1 := termro.depth_eq t'
   rw [hdp] at hot7
   obtain ⟨A7, c7, rfl⟩ := OT.shape hot7
   rw [← HQQ.out.2.2.2]
   have HFN : Hid (∀ u0 u1 u2 u3, ∃ v' S, (Ending.returned (.tuple #[.agg #[.int .i64 to, .string (bstr tn), .int .i64 ts, .slice A7 tl c7], .bool cb])) = .returned (.tuple #[aggT (orZ z ff) v', .bool z]) ∧ OT 34 (depth (orZ z ff)) w.heap.size (set4 w7 (w.heap.size + 1) u0 u1 u2 u3) v' (orZ z ff).args S ∧ Below w.heap.size w (set4 w7 (w.heap.size + 1) u0 u1 u2 u3)) := Lib.hid (fun u0 u1 u2 u3 => by
    obtain ⟨e1, e2, e3, e4⟩ := HQQ.out
    rw [HT'.out, HZC.out]
    refine ⟨.slice A7 tl c7, S7, by unfold aggT; rw [← e1, ← e2, ← e3], ?_, set4_belowB hv7' (by omega) _ _ _ _⟩
    rw [hdp, e4]
    exact (ot_st4 hot7 (x := w.heap.size + 1) (by omega) u0 u1 u2 u3).mono (by omega))
   clear hot7 hb7 hb7' hsz7 hsy hdp hv7' HCY HBY HQQ HT' HZC
   go_wp2
   refine bodyPost_ret (v := .tuple #[.agg #[.int .i64 to, .string (bstr tn), .int .i64 ts, .slice A7 tl c7], .bool cb]) (by simp [results, Tryz.results11, go_sem, z0, z1, z2, z3]) rfl ?_
   exact HFN.out _ _ _ _
end Go.Proofs.YtkkmjaggebjcbaaGreat.tmi
