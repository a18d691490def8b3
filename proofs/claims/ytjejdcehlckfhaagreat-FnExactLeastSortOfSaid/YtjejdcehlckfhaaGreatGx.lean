/-
  Graml, Termvr, Gramk, Gramc, Gramn, Frm, Termev, Termlm, Gramt, Grami, Termv, Formlf, merged.
-/
import Derived.Test.YtjejdcehlckfhaaGreatGramo
import Derived.Test.YtjejdcehlckfhaaGreatGb
import Derived.Test.YtjejdcehlckfhaaGreatTrmv
import Derived.Test.YtjejdcehlckfhaaGreatTermu
import Derived.Test.YtjejdcehlckfhaaGreatTermb
import Derived.BigQuiet
import Derived.Test.YtjejdcehlckfhaaGreatGd
/-
  IsSortedFunc at terms, leaves.
-/
namespace Go.Proofs.YtjejdcehlckfhaaGreat.graml
open Go.ChangeShapes Go.WideShapes Go.ChangeAt Go.RowKit
open mem dec rowl trm trmv terml termb termt termx sigi gram gramo

theorem srt_adj (L : List TermM) : Srt L ↔ ∀ i, i + 1 < L.length → cmp (L.getD i default) (L.getD (i + 1) default) ≤ 0 := by
  constructor
  · intro h i hi
    rw [getD_at (by omega), getD_at hi]
    exact List.pairwise_iff_getElem.1 h i (i + 1) (by omega) hi (by omega)
  · intro h
    refine List.pairwise_iff_getElem.2 (fun i j hi hj hij => ?_)
    have key : ∀ d, i + 1 + d < L.length → cmp (L.getD i default) (L.getD (i + 1 + d) default) ≤ 0 := by
      intro d
      induction d with
      | zero => intro hd; exact h i hd
      | succ d ih =>
        intro hd
        exact cmp_trans _ _ _ (ih (by omega)) (h (i + 1 + d) (by omega))
    have := key (j - i - 1) (by omega)
    rw [show i + 1 + (j - i - 1) = j by omega, getD_at hi, getD_at hj] at this
    exact this
set_option maxRecDepth 20000 in
set_option maxHeartbeats 4000000 in
/-- slices.IsSortedFunc, at terms -/
theorem isSorted_any {N lo : Nat} (L : List TermM) (v : Value) (w : World) (h : HasTs N lo w v L) (hsz : sizes L ≤ 2097152) (r : Bool) (hr : r = true ↔ Srt L) :
    Calls Tryz.prog 195 #[v, .func (.func 157) #[] #[]] w fun e w' => e = .returned (.bool r) ∧ Below w.heap.size w w' := by
  have eg : ∀ args w, (callFunc 157 args).run Tryz.prog w = .ok (.enter 157 args) w := Go.Proofs.enters_of Tryz.func157 (by kernel_rfl) rfl
  obtain ⟨n, hn⟩ : ∃ n, n = L.length := ⟨_, rfl⟩
  obtain ⟨A, c, rfl, h⟩ := HasR.shape h hn.symm
  have hl := h.len.2.1
  rw [srt_adj, ← hn] at hr
  have HR := Lib.hid hr
  have HEL : Hid (∀ j, j < n → ∃ (g o : Nat) (A2 : Option Addr) (c2 k : Nat), A = some ⟨g, o, none⟩ ∧ g < w.heap.size ∧ N = k + 1 ∧ w.cell? ⟨g, o + j * 4, none⟩ = some (.int .i64 (L.getD j default).op) ∧ w.cell? ⟨g, o + j * 4 + 1, none⟩ = some (.string (bstr (L.getD j default).name)) ∧
      w.cell? ⟨g, o + j * 4 + 2, none⟩ = some (.int .i64 (L.getD j default).sort) ∧ w.cell? ⟨g, o + j * 4 + 3, none⟩ = some (.slice A2 (L.getD j default).args.length c2) ∧ HasTs k lo w (.slice A2 (L.getD j default).args.length c2) (L.getD j default).args ∧ sizes (L.getD j default).args ≤ 2097152) := Lib.hid (by
    intro j hj
    obtain ⟨k, g, o, A2, c2, h0, h1, _, h2, h3, h4, h5, h6, h7, _⟩ := term_at h hj
    refine ⟨g, o, A2, c2, k, h1, h2, h0, h3, h4, h5, h6, h7, ?_⟩
    have h9 := size_le_sizes (l := L) (j := j) (by omega)
    have h10 := termro.size_eq (L.getD j default)
    omega)
  clear h hn hr
  by_cases hz : n ≤ 1
  · have HT : Hid (r = true) := Lib.hid (HR.out.2 (fun i hi => by omega))
    have hcs : n = 0 ∨ n = 1 := by omega
    clear hz
    rcases hcs with rfl | rfl
    all_goals
      go_enter Tryz.func195, Tryz.ntmps195
      go_wp2
      go_loopw [5] (fun v5 wr => ∃ z : Int, v5 = .int .i64 z ∧ z ≤ 0 ∧ wr = w) (fun _ _ => 0)
      case atStart => exact ⟨_, rfl, by omega, rfl⟩
      case round =>
        obtain ⟨z, rfl, hz, rfl⟩ := hrel
        have d1 : decide (0 < z) = false := decide_eq_false (by omega)
        have d2 : ¬ 0 < z := by omega
        go_wp2
        go_ret
        exact ⟨ret_bool HT.out.symm, Below.refl _ _⟩
  · obtain ⟨m, hm⟩ : ∃ m, m + 1 = n := ⟨n - 1, by omega⟩
    have hw : IntKind.i64.wrap ((n : Int) - 1) = (m : Int) := by rw [← hm, IntWalk.i64_in _ (by omega)]; omega
    have HM := Lib.hid hm
    have hmn : m < n := by omega
    clear hm hz
    go_enter Tryz.func195, Tryz.ntmps195
    go_wp2
    go_loopw [5] (fun v5 wr => ∃ k : Nat, v5 = .int .i64 k ∧ k ≤ m ∧ Hid (∀ i, k ≤ i → i + 1 < n → cmp (L.getD i default) (L.getD (i + 1) default) ≤ 0) ∧ Hid (Below w.heap.size w wr)) (fun k _ => (intOf k).toNat)
    case atStart => exact ⟨m, rfl, Nat.le_refl _, Lib.hid (fun i h1 h2 => by have := HM.out; omega), Lib.hid (Below.refl _ _)⟩
    case round =>
      obtain ⟨k, rfl, hk, HALL, HB⟩ := hrel
      by_cases hk0 : k ≤ 0
      · have HT : Hid (r = true) := Lib.hid (HR.out.2 (fun i hi => HALL.out i (by omega) hi))
        have d1 : decide ((0 : Int) < (k : Int)) = false := decide_eq_false (by omega)
        have d3 : decide (0 < k) = false := decide_eq_false (by omega)
        have d4 : ¬ 0 < k := by omega
        go_wp2
        go_ret
        exact ⟨ret_bool HT.out.symm, HB.out⟩
      · obtain ⟨p, hp⟩ : ∃ p, p + 1 = k := ⟨k - 1, by omega⟩
        have d1 : decide ((0 : Int) < (k : Int)) = true := decide_eq_true (by omega)
        have d3 : decide (0 < k) = true := decide_eq_true (by omega)
        have d4 : 0 < k := by omega
        have hw2 : IntKind.i64.wrap ((k : Int) - 1) = (p : Int) := by rw [← hp, IntWalk.i64_in _ (by omega)]; omega
        obtain ⟨g, o, A1, c1, N1, rfl, hg, hN1, e0, e1, e2, e3, hh1, hs1⟩ := HEL.out p (by omega)
        obtain ⟨g', o', A2, c2, N2, hA, _, hN2, f0, f1, f2, f3, hh2, hs2⟩ := HEL.out k (by omega)
        simp only [Option.some.injEq, Addr.mk.injEq, and_true] at hA
        obtain ⟨rfl, rfl⟩ := hA
        obtain rfl : N1 = N2 := by omega
        have hbel := HB.out
        obtain ⟨x, hx⟩ : ∃ t, t = L.getD p default := ⟨_, rfl⟩
        obtain ⟨u, hu⟩ : ∃ t, t = L.getD k default := ⟨_, rfl⟩
        rw [← hx] at e0 e1 e2 e3 hh1 hs1
        rw [← hu] at f0 f1 f2 f3 hh2 hs2
        have hgr : g < wr.heap.size := Nat.lt_of_lt_of_le hg hbel.size
        have kc : ∀ y, wr.cell? ⟨g, y, none⟩ = w.cell? ⟨g, y, none⟩ := fun y => hbel.cell (p := ⟨g, y, none⟩) hg
        have r0 : ∀ t : BoxC (Below wr.heap.size wr), t.W.cell? ⟨g, o + p * 4, none⟩ = some (.int .i64 x.op) := fun t => t.cell ((kc _).trans e0) hgr
        have r1 : ∀ t : BoxC (Below wr.heap.size wr), t.W.cell? ⟨g, o + p * 4 + 1, none⟩ = some (.string (bstr x.name)) := fun t => t.cell ((kc _).trans e1) hgr
        have r2 : ∀ t : BoxC (Below wr.heap.size wr), t.W.cell? ⟨g, o + p * 4 + 2, none⟩ = some (.int .i64 x.sort) := fun t => t.cell ((kc _).trans e2) hgr
        have r3 : ∀ t : BoxC (Below wr.heap.size wr), t.W.cell? ⟨g, o + p * 4 + 3, none⟩ = some (.slice A1 x.args.length c1) := fun t => t.cell ((kc _).trans e3) hgr
        have s0 : ∀ t : BoxC (Below wr.heap.size wr), t.W.cell? ⟨g, o + k * 4, none⟩ = some (.int .i64 u.op) := fun t => t.cell ((kc _).trans f0) hgr
        have s1 : ∀ t : BoxC (Below wr.heap.size wr), t.W.cell? ⟨g, o + k * 4 + 1, none⟩ = some (.string (bstr u.name)) := fun t => t.cell ((kc _).trans f1) hgr
        have s2 : ∀ t : BoxC (Below wr.heap.size wr), t.W.cell? ⟨g, o + k * 4 + 2, none⟩ = some (.int .i64 u.sort) := fun t => t.cell ((kc _).trans f2) hgr
        have s3 : ∀ t : BoxC (Below wr.heap.size wr), t.W.cell? ⟨g, o + k * 4 + 3, none⟩ = some (.slice A2 u.args.length c2) := fun t => t.cell ((kc _).trans f3) hgr
        obtain ⟨q, hq⟩ : ∃ q, q = cmp u x := ⟨_, rfl⟩
        have HC1 : Hid (∀ t : BoxC (Below wr.heap.size wr), Calls Tryz.prog 157 #[.agg #[.int .i64 u.op, .string (bstr u.name), .int .i64 u.sort, .slice A2 u.args.length c2], .agg #[.int .i64 x.op, .string (bstr x.name), .int .i64 x.sort, .slice A1 x.args.length c1]] t.W fun e w' => e = .returned (.int .i64 q) ∧ Below t.W.heap.size t.W w') := Lib.hid (fun t => by
          have hb := hbel.trans (t.h.mono hbel.size)
          rw [hq]
          exact (compare_any u x _ _ t.W (hh2.below (Nat.le_refl _) hb) (hh1.below (Nat.le_refl _) hb) hs2).mono (fun _ _ h => ⟨h.1, h.2.below⟩))
        have HQ : Hid (q = - cmp (L.getD p default) (L.getD k default)) := Lib.hid (by rw [hq, hx, hu, cmp_swap (L.getD p default)])
        have HP := Lib.hid hp
        have nb : Nonempty (BoxC (Below wr.heap.size wr)) := ⟨⟨_, Below.refl _ _⟩⟩
        have i1 : (0 : Int) ≤ (p : Int) := by omega
        have i2 : (p : Int) < (n : Int) := by omega
        have i3 : (0 : Int) ≤ (k : Int) := by omega
        have i4 : (k : Int) < (n : Int) := by omega
        have hzr : w.heap.size ≤ wr.heap.size := hbel.size
        clear e0 e1 e2 e3 f0 f1 f2 f3 hh1 hh2 hs1 hs2 hbel kc hx hu hq hp hN1 hN2
        by_cases hq0 : q < 0
        · have d2 : decide (q < 0) = true := decide_eq_true hq0
          have HF : Hid (r = false) := Lib.hid (by
            cases hrr : r with
            | false => rfl
            | true =>
              have h1 := HR.out.1 hrr p (by have := HP.out; omega)
              have h2 := HQ.out
              have h3 := HP.out
              rw [h3] at h1
              omega)
          go_wp2_with fail
          refine region_boxC (C := Below wr.heap.size wr) (by kernel_rfl) (by kernel_rfl) (Below.refl _ _).drew ?_
          repeat (go_big_quiet_step ((go_at_call 157; exact (HC1.out _).mono (fun _ _ h => ⟨h.1, BoxC.step _ h.2⟩))))
          refine wpQuiet_nil ?_
          rintro w5 ⟨t5, rfl⟩
          have HB6 : Hid (Below w.heap.size w t5.W) := Lib.hid (HB.out.trans (t5.h.mono hzr))
          clear r0 r1 r2 r3 s0 s1 s2 s3 nb HC1
          go_wp2
          go_ret
          exact ⟨ret_bool HF.out.symm, HB6.out⟩
        · have d2 : decide (q < 0) = false := decide_eq_false hq0
          go_wp2_with fail
          refine region_boxC (C := Below wr.heap.size wr) (by kernel_rfl) (by kernel_rfl) (Below.refl _ _).drew ?_
          repeat (go_big_quiet_step ((go_at_call 157; exact (HC1.out _).mono (fun _ _ h => ⟨h.1, BoxC.step _ h.2⟩))))
          refine wpQuiet_nil ?_
          rintro w5 ⟨t5, rfl⟩
          have HB6 : Hid (Below w.heap.size w t5.W) := Lib.hid (HB.out.trans (t5.h.mono hzr))
          have HA : Hid (∀ i, p ≤ i → i + 1 < n → cmp (L.getD i default) (L.getD (i + 1) default) ≤ 0) := Lib.hid (fun i h1 h2 => by
            by_cases e : i = p
            · subst e
              have h3 := HQ.out
              have h4 := HP.out
              rw [h4]
              omega
            · exact HALL.out i (by have := HP.out; omega) h2)
          clear r0 r1 r2 r3 s0 s1 s2 s3 nb HC1
          go_wp2
          go_roundw
          case measure => have := HP.out; simp [intOf]; omega
          case rel => exact ⟨p, by go_num, by have := HP.out; omega, HA, HB6⟩
theorem box11 {w : World} {x : Nat} {v0 v1 v2 v3 v4 v5 v6 v7 v8 v9 v10 : Value} {t : TypeId} (h : w.heap[x]? = some (.cells #[v0, v1, v2, v3, v4, v5, v6, v7, v8, v9, v10] t (0, 0))) : w.cell? ⟨x, 0, none⟩ = some v0 ∧ w.cell? ⟨x, 1, none⟩ = some v1 ∧ w.cell? ⟨x, 2, none⟩ = some v2 ∧ w.cell? ⟨x, 3, none⟩ = some v3 ∧ w.cell? ⟨x, 4, none⟩ = some v4 ∧ w.cell? ⟨x, 5, none⟩ = some v5 ∧ w.cell? ⟨x, 6, none⟩ = some v6 ∧ w.cell? ⟨x, 7, none⟩ = some v7 ∧ w.cell? ⟨x, 8, none⟩ = some v8 ∧ w.cell? ⟨x, 9, none⟩ = some v9 ∧ w.cell? ⟨x, 10, none⟩ = some v10 :=
  ⟨cell_of_row w x 0 _ _ _ h, cell_of_row w x 1 _ _ _ h, cell_of_row w x 2 _ _ _ h, cell_of_row w x 3 _ _ _ h, cell_of_row w x 4 _ _ _ h, cell_of_row w x 5 _ _ _ h, cell_of_row w x 6 _ _ _ h, cell_of_row w x 7 _ _ _ h, cell_of_row w x 8 _ _ _ h, cell_of_row w x 9 _ _ _ h, cell_of_row w x 10 _ _ _ h⟩
def isUB (u : Int) (t : TermM) : Bool := decide (u ≠ 0 ∧ t.op = u - 1)
def isAB (a : Bool) (i : Nat) (t : TermM) : Bool := a && decide (t.op = i)
set_option maxRecDepth 20000 in
set_option maxHeartbeats 4000000 in
theorem leaves_any (nm : List UInt8) (A : Option Addr) (n c : Nat) (a b : Bool) (u : Int) (hu : I64 u) (hu0 : 0 ≤ u) (i s0 s1 s2 s3 s4 : Nat) {N lo : Nat} (L : List TermM) (v : Value) (w : World) (h : HasTs N lo w v L) (hsz : sizes L ≤ 2097152) (s : Bool) (hs : s = true ↔ Srt L) (r : Bool) (hr : (!(L.any (isUB u)) && !(L.any (isAB a i)) && (!b || s)) = r) :
    Calls Tryz.prog 163 #[aggE nm A n c a b u i s0 s1 s2 s3 s4, v] w fun e w' => e = .returned (.bool r) ∧ Below w.heap.size w w' := by
  have eg1 : ∀ args w, (callFunc 193 args).run Tryz.prog w = .ok (.enter 193 args) w := Go.Proofs.enters_of Tryz.func193 (by kernel_rfl) rfl
  have eg2 : ∀ args w, (callFunc 194 args).run Tryz.prog w = .ok (.enter 194 args) w := Go.Proofs.enters_of Tryz.func194 (by kernel_rfl) rfl
  have HC1 := Lib.hid (fun W (hW : Below w.heap.size w W) => containsT_any 193 #[aggE nm A n c a b u i s0 s1 s2 s3 s4] #[] eg1 (isUB u) L v W (h.below (Nat.le_refl _) hW) (fun t _ B m cb W' _ => by simpa using isUnit_any nm A n c a b u hu hu0 i s0 s1 s2 s3 s4 t B m cb (isUB u t) rfl W') _ rfl)
  have HC2 := Lib.hid (fun W (hW : Below w.heap.size w W) => containsT_any 194 #[aggE nm A n c a b u i s0 s1 s2 s3 s4] #[] eg2 (isAB a i) L v W (h.below (Nat.le_refl _) hW) (fun t _ B m cb W' _ => by simpa using absorbs_any nm A n c a b u i s0 s1 s2 s3 s4 t B m cb (isAB a i t) rfl W') _ rfl)
  have HC3 := Lib.hid (fun W (hW : Below w.heap.size w W) => isSorted_any L v W (h.below (Nat.le_refl _) hW) hsz s hs)
  obtain ⟨Av, cv, rfl, _⟩ := HasR.shape h rfl
  obtain ⟨p, hp⟩ : ∃ p, p = L.any (isUB u) := ⟨_, rfl⟩
  obtain ⟨q, hq⟩ : ∃ q, q = L.any (isAB a i) := ⟨_, rfl⟩
  rw [← hp] at HC1 hr
  rw [← hq] at HC2 hr
  have HR := Lib.hid hr
  clear h hp hq hr hs eg1 eg2
  have hb0 : Below w.heap.size w (w.alloc (.cells #[.string (bstr nm), .slice A n c, .bool a, .bool b, .int .i64 u, .int .i64 (i : Int), .int .i64 (s0 : Int), .int .u16 (s1 : Int), .int .u16 (s2 : Int), .int .u16 (s3 : Int), .int .u16 (s4 : Int)] 102)) := (Below.refl _ _).alloc (Nat.le_refl _) _
  have HB0 := Lib.hid hb0
  clear hb0
  cases p with
  | true =>
    go_enter Tryz.func163, Tryz.ntmps163
    go_wp2_with fail
    refine (HC1.out _ HB0.out).mono ?_
    rintro e w1 ⟨rfl, hb1⟩
    have hbw1 := HB0.out.trans (hb1.mono HB0.out.size)
    clear hb1
    go_wp2
    go_ret
    exact ⟨ret_bool (by rw [← HR.out]; rfl), hbw1⟩
  | false =>
    go_enter Tryz.func163, Tryz.ntmps163
    go_wp2_with fail
    refine (HC1.out _ HB0.out).mono ?_
    rintro e w1 ⟨rfl, hb1⟩
    have hbw1 := HB0.out.trans (hb1.mono HB0.out.size)
    have h1 : w1.heap[w.heap.size]? = some (.cells #[.string (bstr nm), .slice A n c, .bool a, .bool b, .int .i64 u, .int .i64 (i : Int), .int .i64 (s0 : Int), .int .u16 (s1 : Int), .int .u16 (s2 : Int), .int .u16 (s3 : Int), .int .u16 (s4 : Int)] 102 (0, 0)) := (hb1.block _ (by simp)).trans (heap_at _ _ _ rfl)
    have hz1 : w.heap.size < w1.heap.size := (Array.getElem?_eq_some_iff.1 h1).1
    obtain ⟨k0, k1, k2, k3, k4, k5, k6, k7, k8, k9, k10⟩ := box11 h1
    have HB1 := Lib.hid hbw1
    have HX1 := Lib.hid h1
    clear hb1 hbw1 h1
    go_wp2_with fail
    refine (HC2.out _ HB1.out).mono ?_
    rintro e w2 ⟨rfl, hb2⟩
    have hbw2 := HB1.out.trans (hb2.mono HB1.out.size)
    have h2 : w2.heap[w.heap.size]? = some (.cells #[.string (bstr nm), .slice A n c, .bool a, .bool b, .int .i64 u, .int .i64 (i : Int), .int .i64 (s0 : Int), .int .u16 (s1 : Int), .int .u16 (s2 : Int), .int .u16 (s3 : Int), .int .u16 (s4 : Int)] 102 (0, 0)) := (hb2.block _ hz1).trans HX1.out
    clear k0 k1 k2 k3 k4 k5 k6 k7 k8 k9 k10
    obtain ⟨k0, k1, k2, k3, k4, k5, k6, k7, k8, k9, k10⟩ := box11 h2
    have HB2 := Lib.hid hbw2
    clear hb2 hbw2 h2
    cases q with
    | true =>
      go_wp2
      go_ret
      exact ⟨ret_bool (by rw [← HR.out]; rfl), HB2.out⟩
    | false =>
      cases b with
      | false =>
        go_wp2
        go_ret
        exact ⟨ret_bool (by rw [← HR.out]; rfl), HB2.out⟩
      | true =>
        go_wp2_with fail
        refine (HC3.out _ HB2.out).mono ?_
        rintro e w3 ⟨rfl, hb3⟩
        have HF : Hid (Below w.heap.size w w3) := Lib.hid (HB2.out.trans (hb3.mono HB2.out.size))
        clear hb3
        go_wp2
        go_ret
        exact ⟨ret_bool (by rw [← HR.out]; simp), HF.out⟩
end Go.Proofs.YtjejdcehlckfhaaGreat.graml
/-
  THE PROGRAM'S VariablesOf: what is called at the nodes.
-/
namespace Go.Proofs.YtjejdcehlckfhaaGreat.termvr
open Go.ChangeShapes Go.WideShapes Go.ChangeAt Go.RowKit
open mem dec rowl trm trmv terml termb termt termx termz termro termsd

/-- the cells of terms without arguments -/
def flatV : List TermM → List Value
  | [] => []
  | t :: l => .int .i64 t.op :: .string (bstr t.name) :: .int .i64 t.sort :: .slice none 0 0 :: flatV l
theorem flatV_len : ∀ l : List TermM, (flatV l).length = l.length * 4
  | [] => rfl
  | t :: l => by simp only [flatV, List.length_cons, flatV_len l]; omega
theorem flatV_append : ∀ l m : List TermM, flatV (l ++ m) = flatV l ++ flatV m
  | [], m => rfl
  | t :: l, m => by simp [flatV, flatV_append l m]
theorem flatV_at : ∀ {l : List TermM} {j : Nat}, j < l.length → Cells4 (flatV l) j (l.getD j default) (.slice none 0 0)
  | [], _, h => by simp at h
  | t :: l, 0, _ => ⟨rfl, rfl, rfl, rfl⟩
  | t :: l, j + 1, h => by
    obtain ⟨a, b, c, d⟩ := flatV_at (l := l) (j := j) (by simpa using h)
    rw [List.getD_cons_succ]
    unfold Cells4
    rw [show (j + 1) * 4 = j * 4 + 4 by omega]
    exact ⟨a, b, c, d⟩
theorem one4 (w : World) (a b c d : Value) (t : TypeId) : ∀ (j : Nat) (x : Value), [a, b, c, d][j]? = some x → (w.alloc (.cells #[a, b, c, d] t)).cell? ((⟨w.heap.size, 0, none⟩ : Addr).add j) = some x := by
  intro j x hj
  match j, hj with
  | 0, hj => simp at hj; subst hj; simp [Addr.add]
  | 1, hj => simp at hj; subst hj; simp [Addr.add]
  | 2, hj => simp at hj; subst hj; simp [Addr.add]
  | 3, hj => simp at hj; subst hj; simp [Addr.add]
theorem at4 (w : World) (a b c d : Value) (t : TypeId) (z : Nat) (h : z = w.heap.size) : ∀ (j : Nat) (x : Value), [a, b, c, d][j]? = some x → (w.alloc (.cells #[a, b, c, d] t)).cell? ((⟨z, 0, none⟩ : Addr).add j) = some x := by
  subst h; exact one4 w a b c d t
theorem at4b (W : World) {w1 : World} (a b c d : Value) (t : TypeId) (z : Nat) (h : z = W.heap.size) (hb : Below (W.alloc (.cells #[a, b, c, d] t)).drew.heap.size (W.alloc (.cells #[a, b, c, d] t)).drew w1) : ∀ (j : Nat) (x : Value), [a, b, c, d][j]? = some x → w1.cell? ((⟨z, 0, none⟩ : Addr).add j) = some x := by
  intro j x hx
  have h1 := at4 W a b c d t z h j x hx
  rw [Addr.add_lit] at h1 ⊢
  exact (hb.cell (p := ⟨z, 0 + j, none⟩) (by subst h; simp)).trans h1
theorem four_one {a b c d : Value} (h : a.oneCell' = true) (h1 : b.oneCell' = true) (h2 : c.oneCell' = true) (h3 : d.oneCell' = true) : ∀ x ∈ [a, b, c, d], x.oneCell' = true := by
  intro x hx
  simp at hx
  rcases hx with rfl | rfl | rfl | rfl
  · exact h
  · exact h1
  · exact h2
  · exact h3
/-- impl.isVariable -/
theorem isVar_any (g o : Nat) (x : Int) (w : World) (h : w.cell? ⟨g, o, none⟩ = some (.int .i64 x)) (r : Bool) (hr : decide (x = -1) = r) :
    Calls Tryz.prog 115 #[.pointer (some ⟨g, o, none⟩)] w fun e w' => e = .returned (.bool r) ∧ w = w' := by
  have HR : Hid (r = (x == -1)) := Lib.hid (by rw [← hr, Bool.eq_iff_iff]; simp)
  clear hr
  go_enter Tryz.func115, Tryz.ntmps115
  go_wp2
  go_ret
  exact ⟨ret_bool HR.out.symm, rfl⟩
theorem without_any (g o : Nat) (op : Int) (l : List UInt8) (s : Int) (w : World) (t0 : w.cell? ⟨g, o, none⟩ = some (.int .i64 op)) (t1 : w.cell? ⟨g, o + 1, none⟩ = some (.string (bstr l))) (t2 : w.cell? ⟨g, o + 2, none⟩ = some (.int .i64 s)) :
    Calls Tryz.prog 123 #[.pointer (some ⟨g, o, none⟩)] w fun e w' => e = .returned (.agg #[.int .i64 op, .string (bstr l), .int .i64 s, .slice none 0 0]) ∧ Below w.heap.size w w' := by
  have hg := block_lt_of_cell t0
  simp only [] at hg
  go_enter Tryz.func123, Tryz.ntmps123
  go_wp2_with fail
  have hne : ¬ w.heap.size = g := by omega
  have hb1 : Below w.heap.size w (w.alloc (.cells #[.int .i64 0, .string { data := #[] }, .int .i64 0, .slice none 0 0] 44)) := (Below.refl _ _).alloc (Nat.le_refl _) _
  have c0 := (hb1.cell (p := ⟨g, o, none⟩) hg).trans t0
  have c1 := (hb1.cell (p := ⟨g, o + 1, none⟩) hg).trans t1
  have c2 := (hb1.cell (p := ⟨g, o + 2, none⟩) hg).trans t2
  go_region_held3 (fun w' => w'.cell? ⟨g, o, none⟩ = some (.int .i64 op) ∧ w'.cell? ⟨g, o + 1, none⟩ = some (.string (bstr l)) ∧ w'.cell? ⟨g, o + 2, none⟩ = some (.int .i64 s))
    (first | assumption | (refine ⟨?_, ?_, ?_⟩ <;> assumption) | (refine ⟨?_, ?_, ?_⟩ <;> (refine (Below.cell (((Below.refl w.heap.size w).alloc (Nat.le_refl _) _).drew) (p := ⟨g, _, none⟩) hg).trans ?_; assumption)))
    (fail)
  go_wp2
  refine bodyPost_ret (v := .agg #[.int .i64 op, .string (bstr l), .int .i64 s, .slice none 0 0]) (by simp [results, Tryz.results123, go_sem]) rfl ⟨rfl, ?_⟩
  repeat (first | (refine Below.drew ?_) | (refine Below.setCell ?_ (by first | (simp; done) | (simp; omega)) _) | (refine Below.alloc ?_ (by first | (simp; done) | (simp; omega)) _))
  exact Below.refl _ _
end Go.Proofs.YtjejdcehlckfhaaGreat.termvr
/-
  kindOf, isVariable, isPlain: what the grammar says of a node.
-/
namespace Go.Proofs.YtjejdcehlckfhaaGreat.gramk
open Go.ChangeShapes Go.WideShapes Go.ChangeAt Go.RowKit
open mem dec setm sets sortm sortn sortp sorti rowl trm trmv terml termb termt termx termvr sigi gram gramo graml

/-- the sorts of the kind of a node; 0 if it has none -/
def gKind (G : GrM) (t : TermM) : Nat := if t.op = -1 then atU G.U t.sort else if 0 ≤ t.op ∧ t.op < G.E.length then (G.E.getD t.op.toNat default).2.2.2.2.2.2 else 0
theorem mapU_shape {w : World} {v : Value} {U : List Nat} (h : MapU w v U) : ∃ mm, v = .map mm := by
  rcases h with ⟨rfl, _⟩ | ⟨b, _, _, rfl, _⟩
  · exact ⟨none, rfl⟩
  · exact ⟨some b, rfl⟩
set_option maxRecDepth 20000 in
set_option maxHeartbeats 4000000 in
theorem kindOf_any (G : GrM) (mv : Value) (A : Option Addr) (n c : Nat) (t : TermM) (g o : Nat) (w : World) (hM : HasM w mv (.slice A n c) G) (hn : n = G.E.length) (t0 : w.cell? ⟨g, o, none⟩ = some (.int .i64 t.op)) (t2 : w.cell? ⟨g, o + 2, none⟩ = some (.int .i64 t.sort)) (hB : Bnd t) :
    Calls Tryz.prog 190 #[.agg #[mv, .slice A n c], .pointer (some ⟨g, o, none⟩)] w fun e w' => e = .returned (.int .u16 ((gKind G t : Nat) : Int)) ∧ Below w.heap.size w w' := by
  obtain ⟨mm, rfl⟩ := mapU_shape hM.m
  have hg := block_lt_of_cell t0
  simp only [] at hg
  have hb0 : Below w.heap.size w (w.alloc (.cells #[.map mm, .slice A n c] 80)) := (Below.refl _ _).alloc (Nat.le_refl _) _
  have HB0 := Lib.hid hb0
  have x0 : (w.alloc (.cells #[.map mm, .slice A n c] 80)).cell? ⟨w.heap.size, 0, none⟩ = some (.map mm) := by simp
  have x1 : (w.alloc (.cells #[.map mm, .slice A n c] 80)).cell? ⟨w.heap.size, 1, none⟩ = some (.slice A n c) := by simp
  have y0 := (hb0.cell (p := ⟨g, o, none⟩) hg).trans t0
  have y2 := (hb0.cell (p := ⟨g, o + 2, none⟩) hg).trans t2
  have hzW : (w.alloc (.cells #[.map mm, .slice A n c] 80)).heap.size = w.heap.size + 1 := by simp
  have HM := Lib.hid (hM.below hb0)
  obtain ⟨_, ⟨q1, q2⟩, ⟨q3, q4⟩⟩ := hB
  obtain ⟨to, hto⟩ : ∃ q, q = t.op := ⟨_, rfl⟩
  obtain ⟨ts, hts⟩ : ∃ q, q = t.sort := ⟨_, rfl⟩
  rw [← hto] at t0 y0 q1 q2
  rw [← hts] at t2 y2 q3 q4
  have HK : Hid (gKind G t = if to = -1 then atU G.U ts else if 0 ≤ to ∧ to < G.E.length then (G.E.getD to.toNat default).2.2.2.2.2.2 else 0) := Lib.hid (by rw [hto, hts]; rfl)
  obtain ⟨kk, hkk⟩ : ∃ k, k = gKind G t := ⟨_, rfl⟩
  rw [← hkk] at HK ⊢
  have HN := Lib.hid hn
  clear hM hb0 hto hts hkk hn t2
  by_cases hv : to = -1
  · have HK1 : Hid (kk = atU G.U ts) := Lib.hid (by rw [HK.out, if_pos hv])
    have HIV := Lib.hid (fun W (hW : W.cell? ⟨g, o, none⟩ = some (.int .i64 to)) => isVar_any g o to W hW true (decide_eq_true hv))
    have HLK := Lib.hid (fun W (hW : Below (w.alloc (.cells #[.map mm, .slice A n c] 80)).heap.size (w.alloc (.cells #[.map mm, .slice A n c] 80)) W) => (HM.out.m.below hW).look q3 q4)
    rw [← HK1.out] at HLK
    clear HK hv
    go_enter Tryz.func190, Tryz.ntmps190
    go_wp2_with fail
    generalize w.alloc (.cells #[.map mm, .slice A n c] 80) = W at HB0 x0 x1 y0 y2 hzW HM HLK ⊢
    refine (HIV.out W y0).mono ?_
    rintro e w1 ⟨rfl, rfl⟩
    have hxW : w.heap.size < W.heap.size := by omega
    have hgW : g < W.heap.size := by omega
    have lk : ∀ q, (Instr.lookup 77 (.map mm) (.int .i64 ts) false).run Tryz.prog (W.drewN q) = .ok (.int .u16 (kk : Int)) (W.drewN q) := fun q => HLK.out _ (below_drewN (Below.refl _ _) q)
    have HBQ : Hid (∀ q, Below w.heap.size w (W.drewN q)) := Lib.hid (fun q => below_drewN HB0.out q)
    go_wp2_with fail
    go_quiet (fail)
    go_wp2
    go_ret
    exact ⟨rfl, HBQ.out _⟩
  · have HIV := Lib.hid (fun W (hW : W.cell? ⟨g, o, none⟩ = some (.int .i64 to)) => isVar_any g o to W hW false (decide_eq_false hv))
    by_cases hin : 0 ≤ to ∧ to < n
    · obtain ⟨k, hk⟩ : ∃ k : Nat, to = (k : Int) := ⟨to.toNat, by omega⟩
      have hkn : k < n := by omega
      have HK1 : Hid (kk = (G.E.getD k default).2.2.2.2.2.2) := Lib.hid (by rw [HK.out, if_neg hv, if_pos (by rw [← HN.out]; exact hin), hk]; rfl)
      have HII := Lib.hid (fun W => isIndex_any to n true (decide_eq_true hin) W)
      obtain ⟨ge, oe, A2, c2, hA, hge, hcs, _⟩ := ope_at HM.out.e hkn
      have h10 := hcs 10 (by omega)
      obtain ⟨x, hx⟩ : ∃ x, x = G.E.getD k default := ⟨_, rfl⟩
      rw [← hx] at h10 HK1
      have h10' : (w.alloc (.cells #[.map mm, .slice A n c] 80)).cell? ⟨ge, oe + k * 11 + 10, none⟩ = some (.int .u16 (kk : Int)) := by rw [h10, HK1.out]; rfl
      have i1 : (0 : Int) ≤ (k : Int) := by omega
      have i2 : (k : Int) < (n : Int) := by omega
      subst hA
      subst hk
      clear HK hv hcs h10 hx hin
      go_enter Tryz.func190, Tryz.ntmps190
      go_wp2_with fail
      generalize w.alloc (.cells #[.map mm, .slice (some ⟨ge, oe, none⟩) n c] 80) = W at HB0 x0 x1 y0 y2 hzW HM hge h10' ⊢
      refine (HIV.out W y0).mono ?_
      rintro e w1 ⟨rfl, rfl⟩
      have hxW : w.heap.size < W.heap.size := by omega
      have hgW : g < W.heap.size := by omega
      have HBQ : Hid (∀ q, Below w.heap.size w (W.drewN q)) := Lib.hid (fun q => below_drewN HB0.out q)
      go_wp2_with fail
      go_quiet ((go_at_call 175; exact (HII.out _).mono (fun _ _ h => ⟨h.1, _, h.2.symm⟩)))
      go_wp2_with fail
      go_quiet (fail)
      go_wp2
      go_ret
      exact ⟨rfl, below_drewN (HBQ.out _) _⟩
    · have HK1 : Hid (kk = 0) := Lib.hid (by rw [HK.out, if_neg hv, if_neg (by rw [← HN.out]; exact hin)])
      have HII := Lib.hid (fun W => isIndex_any to n false (decide_eq_false hin) W)
      clear HK hv hin
      go_enter Tryz.func190, Tryz.ntmps190
      go_wp2_with fail
      generalize w.alloc (.cells #[.map mm, .slice A n c] 80) = W at HB0 x0 x1 y0 y2 hzW HM ⊢
      refine (HIV.out W y0).mono ?_
      rintro e w1 ⟨rfl, rfl⟩
      have hxW : w.heap.size < W.heap.size := by omega
      have hgW : g < W.heap.size := by omega
      have HBQ : Hid (∀ q, Below w.heap.size w (W.drewN q)) := Lib.hid (fun q => below_drewN HB0.out q)
      go_wp2_with fail
      go_quiet ((go_at_call 175; exact (HII.out _).mono (fun _ _ h => ⟨h.1, _, h.2.symm⟩)))
      go_wp2
      go_ret
      exact ⟨ret_int (by rw [HK1.out]; rfl), HBQ.out _⟩
theorem toList_nil (l : List UInt8) : (bstr l).toList = [] ↔ l = [] := by
  have h := bstr_eq (a := l) (b := [])
  have e : (bstr []).toList = [] := by first | rfl | (simp [bstr]; done) | (decide +kernel)
  rw [e] at h
  constructor
  · intro hl
    rw [hl] at h
    exact of_decide_eq_true h.symm
  · rintro rfl; exact e
def plainB (t : TermM) : Bool := decide (t.name = [] ∧ t.sort = 0)
theorem isPlain_any (t : TermM) (g o : Nat) (w : World) (t1 : w.cell? ⟨g, o + 1, none⟩ = some (.string (bstr t.name))) (t2 : w.cell? ⟨g, o + 2, none⟩ = some (.int .i64 t.sort)) (r : Bool) (hr : plainB t = r) :
    Calls Tryz.prog 161 #[.pointer (some ⟨g, o, none⟩)] w fun e w' => e = .returned (.bool r) ∧ w = w' := by
  by_cases h1 : t.name = []
  · rw [h1] at t1
    have HR : Hid ((t.sort == 0) = r) := Lib.hid (by rw [← hr, plainB, Bool.eq_iff_iff]; simp [h1])
    have e1 : (bstr []).toList = [] := (toList_nil []).2 rfl
    have e2 : (bstr []).toList.isEmpty = true := by rw [e1]; rfl
    clear hr h1
    go_enter Tryz.func161, Tryz.ntmps161
    go_wp2
    go_ret
    exact ⟨ret_bool (by rw [← HR.out]; try rfl), rfl⟩
  · have HR : Hid (r = false) := Lib.hid (by rw [← hr, plainB]; exact decide_eq_false (fun e => h1 e.1))
    have e1 : ¬ (bstr t.name).toList = [] := fun e => h1 ((toList_nil _).1 e)
    have e2 : (bstr t.name).toList.isEmpty = false := by
      cases hq : (bstr t.name).toList with
      | nil => exact absurd hq e1
      | cons _ _ => rfl
    clear hr h1
    go_enter Tryz.func161, Tryz.ntmps161
    go_wp2
    go_ret
    exact ⟨ret_bool HR.out.symm, rfl⟩
def varB (G : GrM) (t : TermM) : Bool := nameOk t.name && decide (0 ≤ t.sort ∧ t.sort < G.U.length) && decide (t.args.length = 0)
set_option maxRecDepth 20000 in
set_option maxHeartbeats 4000000 in
theorem gIsVar_any (G : GrM) (mv : Value) (A : Option Addr) (n c : Nat) (t : TermM) (g o : Nat) (B : Option Addr) (cb : Nat) (w : World) (hM : HasM w mv (.slice A n c) G) (t1 : w.cell? ⟨g, o + 1, none⟩ = some (.string (bstr t.name))) (t2 : w.cell? ⟨g, o + 2, none⟩ = some (.int .i64 t.sort)) (t3 : w.cell? ⟨g, o + 3, none⟩ = some (.slice B t.args.length cb)) (hB : Bnd t) (r : Bool) (hr : varB G t = r) :
    Calls Tryz.prog 156 #[.agg #[mv, .slice A n c], .pointer (some ⟨g, o, none⟩)] w fun e w' => e = .returned (.bool r) ∧ Below w.heap.size w w' := by
  obtain ⟨mm, rfl⟩ := mapU_shape hM.m
  have hg := block_lt_of_cell t1
  simp only [] at hg
  have hb0 : Below w.heap.size w (w.alloc (.cells #[.map mm, .slice A n c] 80)) := (Below.refl _ _).alloc (Nat.le_refl _) _
  have HB0 := Lib.hid hb0
  have x0 : (w.alloc (.cells #[.map mm, .slice A n c] 80)).cell? ⟨w.heap.size, 0, none⟩ = some (.map mm) := by simp
  have y1 := (hb0.cell (p := ⟨g, o + 1, none⟩) hg).trans t1
  have y2 := (hb0.cell (p := ⟨g, o + 2, none⟩) hg).trans t2
  have y3 := (hb0.cell (p := ⟨g, o + 3, none⟩) hg).trans t3
  have hzW : (w.alloc (.cells #[.map mm, .slice A n c] 80)).heap.size = w.heap.size + 1 := by simp
  obtain ⟨q0, ⟨q3, q4⟩, ⟨q1, q2⟩⟩ := hB
  have HNM := Lib.hid (fun r hr W => iName_any t.name q0 r hr W)
  have HHS := Lib.hid (fun r hr W (hW : Below (w.alloc (.cells #[.map mm, .slice A n c] 80)).heap.size (w.alloc (.cells #[.map mm, .slice A n c] 80)) W) => hasSort_any G.U (.map mm) t.sort q1 q2 r hr W ((hM.below hb0).m.below hW))
  obtain ⟨m, hm⟩ : ∃ m, m = t.args.length := ⟨_, rfl⟩
  rw [← hm] at y3
  obtain ⟨p1, hp1⟩ : ∃ p, p = nameOk t.name := ⟨_, rfl⟩
  obtain ⟨p2, hp2⟩ : ∃ p, p = decide (0 ≤ t.sort ∧ t.sort < G.U.length) := ⟨_, rfl⟩
  have HR : Hid ((p1 && p2 && decide (m = 0)) = r) := Lib.hid (by rw [hp1, hp2, hm, ← hr]; rfl)
  have HN1 := Lib.hid (fun W => HNM.out p1 hp1.symm W)
  have HS1 := Lib.hid (fun W hW => HHS.out p2 hp2.symm W hW)
  clear hM hb0 t1 t2 t3 hr hm hp1 hp2 HNM HHS
  cases p1 with
  | false =>
    go_enter Tryz.func156, Tryz.ntmps156
    go_wp2_with fail
    generalize w.alloc (.cells #[.map mm, .slice A n c] 80) = W at HB0 x0 y1 y2 y3 hzW HS1 ⊢
    have hxW : w.heap.size < W.heap.size := by omega
    have hgW : g < W.heap.size := by omega
    have HBQ : Hid (∀ q, Below w.heap.size w (W.drewN q)) := Lib.hid (fun q => below_drewN HB0.out q)
    go_quiet ((go_at_call 180; exact (HN1.out _).mono (fun _ _ h => ⟨h.1, _, h.2.symm⟩)))
    go_wp2
    go_ret
    exact ⟨ret_bool (by rw [← HR.out]; rfl), HBQ.out _⟩
  | true =>
    cases p2 with
    | false =>
      go_enter Tryz.func156, Tryz.ntmps156
      go_wp2_with fail
      generalize w.alloc (.cells #[.map mm, .slice A n c] 80) = W at HB0 x0 y1 y2 y3 hzW HS1 ⊢
      have hxW : w.heap.size < W.heap.size := by omega
      have hgW : g < W.heap.size := by omega
      have HBQ : Hid (∀ q, Below w.heap.size w (W.drewN q)) := Lib.hid (fun q => below_drewN HB0.out q)
      have HS2 := Lib.hid (fun q => HS1.out (W.drewN q) (below_drewN (Below.refl _ _) q))
      go_quiet (first | (go_at_call 180; exact (HN1.out _).mono (fun _ _ h => ⟨h.1, _, h.2.symm⟩)) | (go_at_call 187; exact (HS2.out _).mono (fun _ _ h => ⟨h.1, _, h.2.symm⟩)))
      go_wp2
      go_ret
      exact ⟨ret_bool (by rw [← HR.out]; rfl), HBQ.out _⟩
    | true =>
      have hmc : (m = 0 ∧ Hid (r = true)) ∨ (((m : Int) == 0) = false ∧ decide ((m : Int) = 0) = false ∧ ¬ m = 0 ∧ Hid (r = false)) := by
        by_cases hz : m = 0
        · exact .inl ⟨hz, Lib.hid (by rw [← HR.out, hz]; rfl)⟩
        · exact .inr ⟨by simp; omega, decide_eq_false (by omega), hz, Lib.hid (by rw [← HR.out]; simp [hz])⟩
      rcases hmc with ⟨rfl, HF⟩ | ⟨d1, d2, d3, HF⟩
      all_goals
        go_enter Tryz.func156, Tryz.ntmps156
        go_wp2_with fail
        generalize w.alloc (.cells #[.map mm, .slice A n c] 80) = W at HB0 x0 y1 y2 y3 hzW HS1 ⊢
        have hxW : w.heap.size < W.heap.size := by omega
        have hgW : g < W.heap.size := by omega
        have HBQ : Hid (∀ q, Below w.heap.size w (W.drewN q)) := Lib.hid (fun q => below_drewN HB0.out q)
        have HS2 := Lib.hid (fun q => HS1.out (W.drewN q) (below_drewN (Below.refl _ _) q))
        go_quiet (first | (go_at_call 180; exact (HN1.out _).mono (fun _ _ h => ⟨h.1, _, h.2.symm⟩)) | (go_at_call 187; exact (HS2.out _).mono (fun _ _ h => ⟨h.1, _, h.2.symm⟩)))
        go_wp2
        go_ret
        exact ⟨ret_bool (by rw [HF.out]; try rfl), HBQ.out _⟩
end Go.Proofs.YtjejdcehlckfhaaGreat.gramk
/-
  canApply.
-/
namespace Go.Proofs.YtjejdcehlckfhaaGreat.gramc
open Go.ChangeShapes Go.WideShapes Go.ChangeAt Go.RowKit
open mem dec setm sets sortm sortn sortp sorti rowl trm trmv terml termb termt termx termvr sigi gram gramo graml gramk

/-- what holds of each operator of a grammar -/
def GrOk (G : GrM) : Prop := ∀ j, j < G.E.length → (G.E.getD j default).2.1 = j ∧ (G.E.getD j default).2.2.1 ≤ 3 ∧ 0 ≤ (G.E.getD j default).1.unt ∧ I64 (G.E.getD j default).1.unt
def takesB (x : OpE) (m : Nat) : Bool := if x.1.ass then decide (2 ≤ m) else decide (m = x.2.2.1)
/-- the operator takes arguments of this number and of these kinds -/
def CanP (G : GrM) (op : Int) (L : List TermM) : Prop := (0 ≤ op ∧ op < G.E.length) ∧ takesB (G.E.getD op.toNat default) L.length = true ∧ ∀ i, i < L.length → gKind G (L.getD i default) = kAtS (G.E.getD op.toNat default).1.ass (G.E.getD op.toNat default).2.2 i
set_option maxRecDepth 20000 in
set_option maxHeartbeats 8000000 in
theorem canApply_any {N lo : Nat} (G : GrM) (hG : GrOk G) (mv : Value) (A : Option Addr) (n c : Nat) (op : Int) (hop : I64 op) (L : List TermM) (v : Value) (w : World) (hM : HasM w mv (.slice A n c) G) (hn : n = G.E.length) (h : HasTs N lo w v L) (r : Bool) (hr : r = true ↔ CanP G op L) :
    Calls Tryz.prog 162 #[.agg #[mv, .slice A n c], .int .i64 op, v] w fun e w' => e = .returned (.bool r) ∧ Below w.heap.size w w' := by
  obtain ⟨mm, rfl⟩ := mapU_shape hM.m
  obtain ⟨m, hm⟩ : ∃ m, m = L.length := ⟨_, rfl⟩
  obtain ⟨B, cb, rfl, h⟩ := HasR.shape h hm.symm
  have hl := h.len.2.1
  have hb0 : Below w.heap.size w (w.alloc (.cells #[.map mm, .slice A n c] 80)) := (Below.refl _ _).alloc (Nat.le_refl _) _
  have HB0 := Lib.hid hb0
  have x0 : (w.alloc (.cells #[.map mm, .slice A n c] 80)).cell? ⟨w.heap.size, 0, none⟩ = some (.map mm) := by simp
  have x1 : (w.alloc (.cells #[.map mm, .slice A n c] 80)).cell? ⟨w.heap.size, 1, none⟩ = some (.slice A n c) := by simp
  have hzW : (w.alloc (.cells #[.map mm, .slice A n c] 80)).heap.size = w.heap.size + 1 := by simp
  have HM := Lib.hid (hM.below hb0)
  have HH := Lib.hid (h.below (Nat.le_refl _) hb0)
  have HN := Lib.hid hn
  have HML := Lib.hid hm
  have HR := Lib.hid hr
  clear hM hb0 h hr
  by_cases hin : 0 ≤ op ∧ op < n
  · obtain ⟨k, hk⟩ : ∃ k : Nat, op = (k : Int) := ⟨op.toNat, by omega⟩
    have hkn : k < n := by omega
    have HII := Lib.hid (fun W => isIndex_any op n true (decide_eq_true hin) W)
    obtain ⟨ge, oe, A2, c2, hA, hge, hcs, _⟩ := ope_at HM.out.e hkn
    obtain ⟨hG1, hG2, hG3, hG4⟩ := hG k (by omega)
    have HRC : Hid (r = true ↔ takesB (G.E.getD k default) m = true ∧ ∀ i, i < m → gKind G (L.getD i default) = kAtS (G.E.getD k default).1.ass (G.E.getD k default).2.2 i) := Lib.hid (by
      rw [HR.out, CanP, hk, ← hn, ← hm]
      have h1 : (0 : Int) ≤ (k : Int) ∧ (k : Int) < (n : Int) := by omega
      simp only [h1, true_and, Int.toNat_natCast, and_self])
    obtain ⟨⟨⟨nm, ds, a, b, u⟩, i, s0, s1, s2, s3, s4⟩, hx⟩ : ∃ x, x = G.E.getD k default := ⟨_, rfl⟩
    rw [← hx] at hcs HRC hG2
    simp only [] at hG2
    obtain ⟨dl, hdl⟩ : ∃ q, q = ds.length := ⟨_, rfl⟩
    have e0 : (w.alloc (.cells #[.map mm, .slice A n c] 80)).cell? ⟨ge, oe + k * 11, none⟩ = some (.string (bstr nm)) := hcs 0 (by omega)
    have e1 : (w.alloc (.cells #[.map mm, .slice A n c] 80)).cell? ⟨ge, oe + k * 11 + 1, none⟩ = some (.slice A2 dl c2) := by rw [hdl]; exact hcs 1 (by omega)
    have e2 : (w.alloc (.cells #[.map mm, .slice A n c] 80)).cell? ⟨ge, oe + k * 11 + 2, none⟩ = some (.bool a) := hcs 2 (by omega)
    have e3 : (w.alloc (.cells #[.map mm, .slice A n c] 80)).cell? ⟨ge, oe + k * 11 + 3, none⟩ = some (.bool b) := hcs 3 (by omega)
    have e4 : (w.alloc (.cells #[.map mm, .slice A n c] 80)).cell? ⟨ge, oe + k * 11 + 4, none⟩ = some (.int .i64 u) := hcs 4 (by omega)
    have e5 : (w.alloc (.cells #[.map mm, .slice A n c] 80)).cell? ⟨ge, oe + k * 11 + 5, none⟩ = some (.int .i64 (i : Int)) := hcs 5 (by omega)
    have e6 : (w.alloc (.cells #[.map mm, .slice A n c] 80)).cell? ⟨ge, oe + k * 11 + 6, none⟩ = some (.int .i64 (s0 : Int)) := hcs 6 (by omega)
    have e7 : (w.alloc (.cells #[.map mm, .slice A n c] 80)).cell? ⟨ge, oe + k * 11 + 7, none⟩ = some (.int .u16 (s1 : Int)) := hcs 7 (by omega)
    have e8 : (w.alloc (.cells #[.map mm, .slice A n c] 80)).cell? ⟨ge, oe + k * 11 + 8, none⟩ = some (.int .u16 (s2 : Int)) := hcs 8 (by omega)
    have e9 : (w.alloc (.cells #[.map mm, .slice A n c] 80)).cell? ⟨ge, oe + k * 11 + 9, none⟩ = some (.int .u16 (s3 : Int)) := hcs 9 (by omega)
    have e10 : (w.alloc (.cells #[.map mm, .slice A n c] 80)).cell? ⟨ge, oe + k * 11 + 10, none⟩ = some (.int .u16 (s4 : Int)) := hcs 10 (by omega)
    have i1 : (0 : Int) ≤ (k : Int) := by omega
    have i2 : (k : Int) < (n : Int) := by omega
    obtain ⟨tk, htk⟩ : ∃ q, q = takesB ((⟨nm, ds, a, b, u⟩, i, s0, s1, s2, s3, s4) : OpE) m := ⟨_, rfl⟩
    have HTK := Lib.hid (fun W => takes_any nm A2 dl c2 a b u i s0 s1 s2 s3 s4 m hl tk htk.symm W)
    have HTV : Hid (tk = if a then decide (2 ≤ m) else decide (m = s0)) := Lib.hid htk
    rw [← htk] at HRC
    subst hA
    subst hk
    clear hcs hx hin hdl htk hG1 hG3 hG4 hn hm
    cases tk with
    | false =>
      have HF : Hid (r = false) := Lib.hid (by cases hq : r with | false => rfl | true => exact absurd (HRC.out.1 hq).1 (by simp))
      go_enter Tryz.func162, Tryz.ntmps162
      go_wp2_with fail
      refine (HII.out _).mono ?_
      rintro e w1 ⟨rfl, rfl⟩
      go_wp2_with fail
      refine (HTK.out _).mono ?_
      rintro e w2 ⟨rfl, hb2⟩
      have HBF : Hid (Below w.heap.size w w2) := Lib.hid (HB0.out.trans (hb2.mono (by rw [hzW]; omega)))
      clear hb2
      go_wp2
      go_ret
      exact ⟨ret_bool HF.out.symm, HBF.out⟩
    | true =>
      have hk3 : a = false → m ≤ 3 := fun ha => by
        have := HTV.out
        rw [ha, if_neg (by simp)] at this
        have := of_decide_eq_true this.symm
        omega
      go_enter Tryz.func162, Tryz.ntmps162
      go_wp2_with fail
      refine (HII.out _).mono ?_
      rintro e w1 ⟨rfl, rfl⟩
      go_wp2_with fail
      refine (HTK.out _).mono ?_
      rintro e w2 ⟨rfl, hb2⟩
      generalize w.alloc (.cells #[.map mm, .slice (some ⟨ge, oe, none⟩) n c] 80) = W at *
      have hgeW : ge < W.heap.size := hge
      have hwW : w.heap.size < W.heap.size := by omega
      clear HII HTK hge i1 i2 hop
      go_wp2
      go_loopw [7, 27] (fun _ v27 wr => ∃ p : Nat, v27 = .int .i64 p ∧ p ≤ m ∧ Hid (∀ i, i < p → gKind G (L.getD i default) = kAtS a (s0, s1, s2, s3, s4) i) ∧ Hid (Below W.heap.size W wr)) (fun _ i _ => m - (intOf i).toNat)
      case atStart => exact ⟨0, rfl, Nat.zero_le _, Lib.hid (fun i h => absurd h (Nat.not_lt_zero _)), Lib.hid hb2⟩
      case round =>
        obtain ⟨p, rfl, hp, HALL, HB⟩ := hrel
        by_cases hpm : p < m
        · have d1 : decide ((p : Int) < (m : Int)) = true := decide_eq_true (by omega)
          have d3 : decide (p < m) = true := decide_eq_true hpm
          obtain ⟨_, g, o, A3, c3, _, rfl, _, hgW, t0, _, t2, _, _, hBn⟩ := term_at HH.out hpm
          obtain ⟨x, hx⟩ : ∃ x, x = L.getD p default := ⟨_, rfl⟩
          rw [← hx] at t0 t2 hBn
          have hbel := HB.out
          have hgr : g < wr.heap.size := Nat.lt_of_lt_of_le hgW hbel.size
          have hger : ge < wr.heap.size := Nat.lt_of_lt_of_le hgeW hbel.size
          have hwr : w.heap.size < wr.heap.size := Nat.lt_of_lt_of_le hwW hbel.size
          have kc : ∀ b y, b < W.heap.size → wr.cell? ⟨b, y, none⟩ = W.cell? ⟨b, y, none⟩ := fun b y h => hbel.cell (p := ⟨b, y, none⟩) h
          have r0 : ∀ t : BoxC (Below wr.heap.size wr), t.W.cell? ⟨w.heap.size, 0, none⟩ = some (.map mm) := fun t => t.cell ((kc _ _ hwW).trans x0) hwr
          have r1 : ∀ t : BoxC (Below wr.heap.size wr), t.W.cell? ⟨w.heap.size, 1, none⟩ = some (.slice (some ⟨ge, oe, none⟩) n c) := fun t => t.cell ((kc _ _ hwW).trans x1) hwr
          have g0 : ∀ t : BoxC (Below wr.heap.size wr), t.W.cell? ⟨ge, oe + k * 11, none⟩ = some (.string (bstr nm)) := fun t => t.cell ((kc _ _ hgeW).trans e0) hger
          have g1 : ∀ t : BoxC (Below wr.heap.size wr), t.W.cell? ⟨ge, oe + k * 11 + 1, none⟩ = some (.slice A2 dl c2) := fun t => t.cell ((kc _ _ hgeW).trans e1) hger
          have g2 : ∀ t : BoxC (Below wr.heap.size wr), t.W.cell? ⟨ge, oe + k * 11 + 2, none⟩ = some (.bool a) := fun t => t.cell ((kc _ _ hgeW).trans e2) hger
          have g3 : ∀ t : BoxC (Below wr.heap.size wr), t.W.cell? ⟨ge, oe + k * 11 + 3, none⟩ = some (.bool b) := fun t => t.cell ((kc _ _ hgeW).trans e3) hger
          have g4 : ∀ t : BoxC (Below wr.heap.size wr), t.W.cell? ⟨ge, oe + k * 11 + 4, none⟩ = some (.int .i64 u) := fun t => t.cell ((kc _ _ hgeW).trans e4) hger
          have g5 : ∀ t : BoxC (Below wr.heap.size wr), t.W.cell? ⟨ge, oe + k * 11 + 5, none⟩ = some (.int .i64 (i : Int)) := fun t => t.cell ((kc _ _ hgeW).trans e5) hger
          have g6 : ∀ t : BoxC (Below wr.heap.size wr), t.W.cell? ⟨ge, oe + k * 11 + 6, none⟩ = some (.int .i64 (s0 : Int)) := fun t => t.cell ((kc _ _ hgeW).trans e6) hger
          have g7 : ∀ t : BoxC (Below wr.heap.size wr), t.W.cell? ⟨ge, oe + k * 11 + 7, none⟩ = some (.int .u16 (s1 : Int)) := fun t => t.cell ((kc _ _ hgeW).trans e7) hger
          have g8 : ∀ t : BoxC (Below wr.heap.size wr), t.W.cell? ⟨ge, oe + k * 11 + 8, none⟩ = some (.int .u16 (s2 : Int)) := fun t => t.cell ((kc _ _ hgeW).trans e8) hger
          have g9 : ∀ t : BoxC (Below wr.heap.size wr), t.W.cell? ⟨ge, oe + k * 11 + 9, none⟩ = some (.int .u16 (s3 : Int)) := fun t => t.cell ((kc _ _ hgeW).trans e9) hger
          have g10 : ∀ t : BoxC (Below wr.heap.size wr), t.W.cell? ⟨ge, oe + k * 11 + 10, none⟩ = some (.int .u16 (s4 : Int)) := fun t => t.cell ((kc _ _ hgeW).trans e10) hger
          obtain ⟨kk, hkk⟩ : ∃ q, q = gKind G x := ⟨_, rfl⟩
          obtain ⟨ka, hka⟩ : ∃ q, q = kAtS a (s0, s1, s2, s3, s4) p := ⟨_, rfl⟩
          have HC1 : Hid (∀ t : BoxC (Below wr.heap.size wr), Calls Tryz.prog 190 #[.agg #[.map mm, .slice (some ⟨ge, oe, none⟩) n c], .pointer (some ⟨g, o + p * 4, none⟩)] t.W fun e w' => e = .returned (.int .u16 (kk : Int)) ∧ Below t.W.heap.size t.W w') := Lib.hid (fun t => by
            have hb := hbel.trans (t.h.mono hbel.size)
            rw [hkk]
            exact kindOf_any G (.map mm) _ n c x g (o + p * 4) t.W (HM.out.below hb) HN.out (t.cell ((kc _ _ hgW).trans t0) hgr) (t.cell ((kc _ _ hgW).trans t2) hgr) hBn)
          have HC2 : Hid (∀ t : BoxC (Below wr.heap.size wr), Calls Tryz.prog 191 #[aggE nm A2 dl c2 a b u i s0 s1 s2 s3 s4, .int .i64 p] t.W fun e w' => e = .returned (.int .u16 (ka : Int)) ∧ Below t.W.heap.size t.W w') := Lib.hid (fun t => by
            rw [hka]
            exact kindAt_any nm A2 dl c2 a b u i s0 s1 s2 s3 s4 p (fun ha => by have := hk3 ha; omega) t.W)
          have HKK : Hid (kk = gKind G (L.getD p default)) := Lib.hid (by rw [hkk, hx])
          have HKA : Hid (ka = kAtS a (s0, s1, s2, s3, s4) p) := Lib.hid hka
          have nb : Nonempty (BoxC (Below wr.heap.size wr)) := ⟨⟨_, Below.refl _ _⟩⟩
          have i1 : (0 : Int) ≤ (k : Int) := by omega
          have i2 : (k : Int) < (n : Int) := by omega
          have i3 : (0 : Int) ≤ (p : Int) := by omega
          have i4 : (p : Int) < (m : Int) := by omega
          have hWr : W.heap.size ≤ wr.heap.size := hbel.size
          clear t0 t2 hbel kc hkk hka hx x0 x1 e0 e1 e2 e3 e4 e5 e6 e7 e8 e9 e10
          by_cases hq : kk = ka
          · have q1 : ((kk : Int) == (ka : Int)) = true := by rw [hq]; simp
            have q2 : (kk == ka) = true := by rw [hq]; simp
            have q3 : decide (kk = ka) = true := decide_eq_true hq
            go_wp2_with fail
            refine region_boxC (C := Below wr.heap.size wr) (by kernel_rfl) (by kernel_rfl) (Below.refl _ _).drew ?_
            repeat (first | go_big_quiet_step ((go_at_call 190; exact (HC1.out _).mono (fun _ _ h => ⟨h.1, BoxC.step _ h.2⟩))) | go_big_quiet_step ((go_at_call 191; exact (HC2.out _).mono (fun _ _ h => ⟨h.1, BoxC.step _ h.2⟩))))
            refine wpQuiet_nil ?_
            rintro w5 ⟨t5, rfl⟩
            have HB6 : Hid (Below W.heap.size W t5.W) := Lib.hid (HB.out.trans (t5.h.mono hWr))
            have HA : Hid (∀ i, i < p + 1 → gKind G (L.getD i default) = kAtS a (s0, s1, s2, s3, s4) i) := Lib.hid (fun j hj => by
              by_cases e : j = p
              · subst e; rw [← HKK.out, ← HKA.out, hq]
              · exact HALL.out j (by omega))
            clear r0 r1 g0 g1 g2 g3 g4 g5 g6 g7 g8 g9 g10 nb HC1 HC2
            go_wp2
            go_roundw
            case measure => simp [intOf]; omega
            case rel => exact ⟨p + 1, by go_num, by omega, HA, HB6⟩
          · have q1 : ((kk : Int) == (ka : Int)) = false := by simp; omega
            have q2 : (kk == ka) = false := by simp [hq]
            have q3 : decide (kk = ka) = false := decide_eq_false hq
            have HF : Hid (r = false) := Lib.hid (by
              cases hrr : r with
              | false => rfl
              | true => exact absurd ((HRC.out.1 hrr).2 p hpm) (by rw [← HKK.out, ← HKA.out]; exact hq))
            go_wp2_with fail
            refine region_boxC (C := Below wr.heap.size wr) (by kernel_rfl) (by kernel_rfl) (Below.refl _ _).drew ?_
            repeat (first | go_big_quiet_step ((go_at_call 190; exact (HC1.out _).mono (fun _ _ h => ⟨h.1, BoxC.step _ h.2⟩))) | go_big_quiet_step ((go_at_call 191; exact (HC2.out _).mono (fun _ _ h => ⟨h.1, BoxC.step _ h.2⟩))))
            refine wpQuiet_nil ?_
            rintro w5 ⟨t5, rfl⟩
            have HB6 : Hid (Below w.heap.size w t5.W) := Lib.hid (HB0.out.trans ((HB.out.trans (t5.h.mono hWr)).mono (Nat.le_of_lt hwW)))
            clear r0 r1 g0 g1 g2 g3 g4 g5 g6 g7 g8 g9 g10 nb HC1 HC2
            go_wp2
            go_ret
            exact ⟨ret_bool HF.out.symm, HB6.out⟩
        · have d1 : decide ((p : Int) < (m : Int)) = false := decide_eq_false (by omega)
          have d3 : decide (p < m) = false := decide_eq_false hpm
          have HT : Hid (r = true) := Lib.hid (HRC.out.2 ⟨by first | rfl | trivial, fun i hi => HALL.out i (by omega)⟩)
          have HBF : Hid (Below w.heap.size w wr) := Lib.hid (HB0.out.trans (HB.out.mono (Nat.le_of_lt hwW)))
          clear e0 e1 e2 e3 e4 e5 e6 e7 e8 e9 e10 x0 x1
          go_wp2
          go_ret
          exact ⟨ret_bool HT.out.symm, HBF.out⟩
  · have HII := Lib.hid (fun W => isIndex_any op n false (decide_eq_false hin) W)
    have HF : Hid (r = false) := Lib.hid (by
      cases hq : r with
      | false => rfl
      | true => exact absurd (HR.out.1 hq).1 (by rw [← HN.out]; exact hin))
    clear hin hn hm
    go_enter Tryz.func162, Tryz.ntmps162
    go_wp2_with fail
    refine (HII.out _).mono ?_
    rintro e w1 ⟨rfl, rfl⟩
    go_wp2
    go_ret
    exact ⟨ret_bool HF.out.symm, HB0.out⟩
end Go.Proofs.YtjejdcehlckfhaaGreat.gramc
/-
  isNode.
-/
namespace Go.Proofs.YtjejdcehlckfhaaGreat.gramn
open Go.ChangeShapes Go.WideShapes Go.ChangeAt Go.RowKit
open mem dec setm sets sortm sortn sortp sorti rowl trm trmv terml termb termt termx termz termvr sigi gram gramo graml gramk gramc

theorem heap2a (w : World) (o1 o2 : Obj) : ((w.alloc o1).alloc o2).heap[w.heap.size]? = some o1 := by
  show ((w.heap.push o1).push o2)[w.heap.size]? = some o1
  rw [Array.getElem?_push, if_neg (by simp; try omega), Array.getElem?_push, if_pos rfl]
noncomputable instance (L : List TermM) : Decidable (Srt L) := by unfold Srt; infer_instance
/-- no unit, nothing of the operator's own where it is associative, in order where it is commutative -/
noncomputable def leafB (x : OpE) (L : List TermM) (s : Bool) : Bool := !(L.any (isUB x.1.unt)) && !(L.any (isAB x.1.ass x.2.1)) && (!x.1.com || s)
/-- what is asked of a node and its arguments, without theirs -/
def NodeP (G : GrM) (t : TermM) : Prop := if t.op = -1 then varB G t = true else plainB t = true ∧ CanP G t.op t.args ∧ leafB (G.E.getD t.op.toNat default) t.args (decide (Srt t.args)) = true
set_option maxRecDepth 50000 in
set_option maxHeartbeats 8000000 in
theorem isNode_any {N lo : Nat} (G : GrM) (hG : GrOk G) (mv : Value) (A : Option Addr) (n c : Nat) (t : TermM) (g o d : Nat) (B : Option Addr) (cb : Nat) (w : World) (hM : HasM w mv (.slice A n c) G) (hn : n = G.E.length)
    (t0 : w.cell? ⟨g, o, none⟩ = some (.int .i64 t.op)) (t1 : w.cell? ⟨g, o + 1, none⟩ = some (.string (bstr t.name))) (t2 : w.cell? ⟨g, o + 2, none⟩ = some (.int .i64 t.sort)) (t3 : w.cell? ⟨g, o + 3, none⟩ = some (.slice B t.args.length cb))
    (h : HasTs N lo w (.slice B t.args.length cb) t.args) (hB : Bnd t) (hsz : sizes t.args ≤ 2097152) (r : Bool) (hr : r = true ↔ NodeP G t) :
    Calls Tryz.prog 112 #[.agg #[mv, .slice A n c], .agg #[.pointer (some ⟨g, o, none⟩), .int .i64 d]] w fun e w' => e = .returned (.bool r) ∧ Below w.heap.size w w' := by
  obtain ⟨mm, rfl⟩ := mapU_shape hM.m
  have hg := block_lt_of_cell t0
  simp only [] at hg
  obtain ⟨W, hW⟩ : ∃ W, W = (w.alloc (.cells #[.map mm, .slice A n c] 80)).alloc (.cells #[.pointer (some ⟨g, o, none⟩), .int .i64 d] 203) := ⟨_, rfl⟩
  have hb0 : Below w.heap.size w W := by
    rw [hW]
    repeat (first | exact Below.refl _ _ | refine Below.alloc ?_ (by first | (simp; done) | (simp; omega)) _)
  have x0 : W.cell? ⟨w.heap.size, 0, none⟩ = some (.map mm) := by rw [hW]; exact cell_of_row _ _ 0 _ _ _ (heap2a _ _ _)
  have x1 : W.cell? ⟨w.heap.size, 1, none⟩ = some (.slice A n c) := by rw [hW]; exact cell_of_row _ _ 1 _ _ _ (heap2a _ _ _)
  have y0 : W.cell? ⟨w.heap.size + 1, 0, none⟩ = some (.pointer (some ⟨g, o, none⟩)) := by rw [hW]; exact cell_of_row _ _ 0 _ _ _ (heap_at _ _ _ (by simp))
  have hzW : W.heap.size = w.heap.size + 2 := by rw [hW]; simp
  have hgW : g < W.heap.size := by omega
  have z0 := (hb0.cell (p := ⟨g, o, none⟩) hg).trans t0
  have z1 := (hb0.cell (p := ⟨g, o + 1, none⟩) hg).trans t1
  have z2 := (hb0.cell (p := ⟨g, o + 2, none⟩) hg).trans t2
  have z3 := (hb0.cell (p := ⟨g, o + 3, none⟩) hg).trans t3
  have HB0 := Lib.hid hb0
  have HM := Lib.hid (hM.below hb0)
  have HH : Hid (HasTs N lo W (.slice B t.args.length cb) t.args) := Lib.hid (h.below (Nat.le_refl _) hb0)
  have HN := Lib.hid hn
  have HR := Lib.hid hr
  have HBN := Lib.hid hB
  obtain ⟨to, hto⟩ : ∃ q, q = t.op := ⟨_, rfl⟩
  obtain ⟨ar, har⟩ : ∃ q, q = t.args.length := ⟨_, rfl⟩
  by_cases hv : to = -1
  · have HIV := Lib.hid (fun V (hV : V.cell? ⟨g, o, none⟩ = some (.int .i64 to)) => isVar_any g o to V hV true (decide_eq_true hv))
    have HC : Hid (Calls Tryz.prog 156 #[.agg #[.map mm, .slice A n c], .pointer (some ⟨g, o, none⟩)] W fun e w' => e = .returned (.bool r) ∧ Below W.heap.size W w') := Lib.hid
      (gIsVar_any G _ A n c t g o B cb W HM.out z1 z2 z3 HBN.out r (by
        have h1 := HR.out
        rw [NodeP, if_pos (by rw [← hto]; exact hv)] at h1
        cases r with
        | true => exact h1.1 rfl
        | false => cases hq : varB G t with
          | false => rfl
          | true => exact absurd (h1.2 hq) (by simp)))
    rw [← hto] at z0
    clear hzW hM hb0 t0 t1 t2 t3 z1 z2 z3 h hn hr hB hto har hv HM HH
    go_enter Tryz.func112, Tryz.ntmps112
    go_wp2_with fail
    rw [← hW]
    clear hW
    refine (HIV.out _ z0).mono ?_
    rintro e w1 ⟨rfl, rfl⟩
    go_wp2_with fail
    refine HC.out.mono ?_
    rintro e w1 ⟨rfl, hb1⟩
    have HF : Hid (Below w.heap.size w w1) := Lib.hid (HB0.out.trans (hb1.mono HB0.out.size))
    clear hb1
    go_wp2
    go_ret
    exact ⟨rfl, HF.out⟩
  · have HIV := Lib.hid (fun V (hV : V.cell? ⟨g, o, none⟩ = some (.int .i64 to)) => isVar_any g o to V hV false (decide_eq_false hv))
    have HR1 : Hid (r = true ↔ plainB t = true ∧ CanP G to t.args ∧ leafB (G.E.getD to.toNat default) t.args (decide (Srt t.args)) = true) := Lib.hid (by
      have h1 := HR.out
      rw [NodeP, if_neg (by rw [← hto]; exact hv), ← hto] at h1
      exact h1)
    have hI : I64 to := by rw [hto]; exact hB.2.1
    obtain ⟨pb, hpb⟩ : ∃ q, q = plainB t := ⟨_, rfl⟩
    obtain ⟨cb', hcb⟩ : ∃ q : Bool, q = true ↔ CanP G to t.args := by
      by_cases hq : CanP G to t.args
      · exact ⟨true, fun _ => hq, fun _ => rfl⟩
      · exact ⟨false, fun e => absurd e (by simp), fun e => absurd e hq⟩
    have HP : Hid (∀ t' : BoxC (Below W.heap.size W), Calls Tryz.prog 161 #[.pointer (some ⟨g, o, none⟩)] t'.W fun e w' => e = .returned (.bool pb) ∧ Below t'.W.heap.size t'.W w') := Lib.hid (fun t' =>
      (isPlain_any t g o t'.W (t'.cell z1 hgW) (t'.cell z2 hgW) pb hpb.symm).mono (fun _ _ q => ⟨q.1, q.2 ▸ Below.refl _ _⟩))
    have HC : Hid (∀ t' : BoxC (Below W.heap.size W), Calls Tryz.prog 162 #[.agg #[.map mm, .slice A n c], .int .i64 to, .slice B ar cb] t'.W fun e w' => e = .returned (.bool cb') ∧ Below t'.W.heap.size t'.W w') := Lib.hid (fun t' => by
      rw [har]
      exact canApply_any G hG _ A n c to hI t.args _ t'.W (HM.out.below t'.h) HN.out (HH.out.below (Nat.le_refl _) t'.h) cb' hcb)
    have r0 : ∀ t' : BoxC (Below W.heap.size W), t'.W.cell? ⟨w.heap.size, 0, none⟩ = some (.map mm) := fun t' => t'.cell x0 (by show _ < _; omega)
    have r1 : ∀ t' : BoxC (Below W.heap.size W), t'.W.cell? ⟨w.heap.size, 1, none⟩ = some (.slice A n c) := fun t' => t'.cell x1 (by show _ < _; omega)
    have r2 : ∀ t' : BoxC (Below W.heap.size W), t'.W.cell? ⟨w.heap.size + 1, 0, none⟩ = some (.pointer (some ⟨g, o, none⟩)) := fun t' => t'.cell y0 (by show _ < _; omega)
    have r3 : ∀ t' : BoxC (Below W.heap.size W), t'.W.cell? ⟨g, o, none⟩ = some (.int .i64 to) := fun t' => t'.cell (by rw [hto]; exact z0) hgW
    have r4 : ∀ t' : BoxC (Below W.heap.size W), t'.W.cell? ⟨g, o + 3, none⟩ = some (.slice B ar cb) := fun t' => t'.cell (by rw [har]; exact z3) hgW
    have nb : Nonempty (BoxC (Below W.heap.size W)) := ⟨⟨_, Below.refl _ _⟩⟩
    have z0' : W.cell? ⟨g, o, none⟩ = some (.int .i64 to) := by rw [hto]; exact z0
    cases pb with
    | false =>
      have HF : Hid (r = false) := Lib.hid (by cases hq : r with
        | false => rfl
        | true => exact absurd (HR1.out.1 hq).1 (by rw [← hpb]; simp))
      clear hzW hM hb0 t0 t1 t2 t3 z0 z1 z2 z3 h hn hr hB hto har hv HM HH HR HR1 hpb hcb hI HC
      go_enter Tryz.func112, Tryz.ntmps112
      go_wp2_with fail
      rw [← hW]
      clear hW
      refine (HIV.out _ z0').mono ?_
      rintro e w1 ⟨rfl, rfl⟩
      go_wp2_with fail
      refine region_boxC (C := Below W.heap.size W) (by kernel_rfl) (by kernel_rfl) (Below.refl _ _).drew ?_
      repeat (go_big_quiet_step ((go_at_call 161; exact (HP.out _).mono (fun _ _ h => ⟨h.1, BoxC.step _ h.2⟩))))
      refine wpQuiet_nil ?_
      rintro w5 ⟨t5, rfl⟩
      have HB6 : Hid (Below w.heap.size w t5.W) := Lib.hid (HB0.out.trans (t5.h.mono HB0.out.size))
      clear r0 r1 r2 r3 r4 nb HP x0 x1 y0 z0'
      go_wp2
      go_ret
      exact ⟨ret_bool HF.out.symm, HB6.out⟩
    | true =>
      cases cb' with
      | false =>
        have HF : Hid (r = false) := Lib.hid (by cases hq : r with
          | false => rfl
          | true => exact absurd (hcb.2 (HR1.out.1 hq).2.1) (by simp))
        clear hzW hM hb0 t0 t1 t2 t3 z0 z1 z2 z3 h hn hr hB hto har hv HM HH HR HR1 hpb hcb hI
        go_enter Tryz.func112, Tryz.ntmps112
        go_wp2_with fail
        rw [← hW]
        clear hW
        refine (HIV.out _ z0').mono ?_
        rintro e w1 ⟨rfl, rfl⟩
        go_wp2_with fail
        refine region_boxC (C := Below W.heap.size W) (by kernel_rfl) (by kernel_rfl) (Below.refl _ _).drew ?_
        repeat (first | go_big_quiet_step ((go_at_call 161; exact (HP.out _).mono (fun _ _ h => ⟨h.1, BoxC.step _ h.2⟩))) | go_big_quiet_step ((go_at_call 162; exact (HC.out _).mono (fun _ _ h => ⟨h.1, BoxC.step _ h.2⟩))))
        refine wpQuiet_nil ?_
        rintro w5 ⟨t5, rfl⟩
        have HB6 : Hid (Below w.heap.size w t5.W) := Lib.hid (HB0.out.trans (t5.h.mono HB0.out.size))
        clear r0 r1 r2 r3 r4 nb HP HC x0 x1 y0 z0'
        go_wp2
        go_ret
        exact ⟨ret_bool HF.out.symm, HB6.out⟩
      | true =>
        have hcan := hcb.1 rfl
        obtain ⟨k, rfl⟩ : ∃ k : Nat, to = (k : Int) := ⟨to.toNat, by have := hcan.1; omega⟩
        have hkn : k < n := by have := hcan.1.2; omega
        obtain ⟨ge, oe, A2, c2, hA, hge, hcs, _⟩ := ope_at HM.out.e hkn
        obtain ⟨hG1, hG2, hG3, hG4⟩ := hG k (by omega)
        have HRL : Hid (r = leafB (G.E.getD k default) t.args (decide (Srt t.args))) := Lib.hid (by
          have h1 := HR1.out
          rw [← hpb] at h1
          simp only [hcan, true_and, Int.toNat_natCast] at h1
          rw [Bool.eq_iff_iff]
          exact h1)
        obtain ⟨⟨⟨nm, ds, a, b, u⟩, i, s0, s1, s2, s3, s4⟩, hx⟩ : ∃ x, x = G.E.getD k default := ⟨_, rfl⟩
        rw [← hx] at hcs HRL hG3 hG4
        simp only [] at hG3 hG4
        obtain ⟨dl, hdl⟩ : ∃ q, q = ds.length := ⟨_, rfl⟩
        have hcd : ∀ (j : Nat) (v : Value), j < 11 → (encE (⟨nm, ds, a, b, u⟩, i, s0, s1, s2, s3, s4) (.slice A2 dl c2)).getD j undef = v → ∀ t' : BoxC (Below W.heap.size W), t'.W.cell? ⟨ge, oe + k * 11 + j, none⟩ = some v := fun j v hj e t' => by
          refine t'.cell ?_ hge
          rw [hcs j hj, ← e, hdl]
        have g0 : ∀ t : BoxC (Below W.heap.size W), t.W.cell? ⟨ge, oe + k * 11, none⟩ = some (.string (bstr nm)) := hcd 0 _ (by omega) rfl
        have g1 : ∀ t : BoxC (Below W.heap.size W), t.W.cell? ⟨ge, oe + k * 11 + 1, none⟩ = some (.slice A2 dl c2) := hcd 1 _ (by omega) rfl
        have g2 : ∀ t : BoxC (Below W.heap.size W), t.W.cell? ⟨ge, oe + k * 11 + 2, none⟩ = some (.bool a) := hcd 2 _ (by omega) rfl
        have g3 : ∀ t : BoxC (Below W.heap.size W), t.W.cell? ⟨ge, oe + k * 11 + 3, none⟩ = some (.bool b) := hcd 3 _ (by omega) rfl
        have g4 : ∀ t : BoxC (Below W.heap.size W), t.W.cell? ⟨ge, oe + k * 11 + 4, none⟩ = some (.int .i64 u) := hcd 4 _ (by omega) rfl
        have g5 : ∀ t : BoxC (Below W.heap.size W), t.W.cell? ⟨ge, oe + k * 11 + 5, none⟩ = some (.int .i64 (i : Int)) := hcd 5 _ (by omega) rfl
        have g6 : ∀ t : BoxC (Below W.heap.size W), t.W.cell? ⟨ge, oe + k * 11 + 6, none⟩ = some (.int .i64 (s0 : Int)) := hcd 6 _ (by omega) rfl
        have g7 : ∀ t : BoxC (Below W.heap.size W), t.W.cell? ⟨ge, oe + k * 11 + 7, none⟩ = some (.int .u16 (s1 : Int)) := hcd 7 _ (by omega) rfl
        have g8 : ∀ t : BoxC (Below W.heap.size W), t.W.cell? ⟨ge, oe + k * 11 + 8, none⟩ = some (.int .u16 (s2 : Int)) := hcd 8 _ (by omega) rfl
        have g9 : ∀ t : BoxC (Below W.heap.size W), t.W.cell? ⟨ge, oe + k * 11 + 9, none⟩ = some (.int .u16 (s3 : Int)) := hcd 9 _ (by omega) rfl
        have g10 : ∀ t : BoxC (Below W.heap.size W), t.W.cell? ⟨ge, oe + k * 11 + 10, none⟩ = some (.int .u16 (s4 : Int)) := hcd 10 _ (by omega) rfl
        have HL : Hid (∀ t' : BoxC (Below W.heap.size W), Calls Tryz.prog 163 #[aggE nm A2 dl c2 a b u i s0 s1 s2 s3 s4, .slice B ar cb] t'.W fun e w' => e = .returned (.bool r) ∧ Below t'.W.heap.size t'.W w') := Lib.hid (fun t' => by
          rw [har]
          exact leaves_any nm A2 dl c2 a b u hG4 hG3 i s0 s1 s2 s3 s4 t.args _ t'.W (HH.out.below (Nat.le_refl _) t'.h) hsz (decide (Srt t.args)) decide_eq_true_iff r HRL.out.symm)
        have i1 : (0 : Int) ≤ (k : Int) := by omega
        have i2 : (k : Int) < (n : Int) := by omega
        subst hA
        clear hzW hM hb0 t0 t1 t2 t3 z0 z1 z2 z3 h hn hr hB hto har hv HM HH HR HR1 hpb hcb hI hcs hcd hx hdl hcan hG1 hG2 hG3 hG4 HRL hkn
        go_enter Tryz.func112, Tryz.ntmps112
        go_wp2_with fail
        rw [← hW]
        clear hW
        refine (HIV.out _ z0').mono ?_
        rintro e w1 ⟨rfl, rfl⟩
        go_wp2_with fail
        refine region_boxC (C := Below W.heap.size W) (by kernel_rfl) (by kernel_rfl) (Below.refl _ _).drew ?_
        repeat (first | go_big_quiet_step ((go_at_call 161; exact (HP.out _).mono (fun _ _ h => ⟨h.1, BoxC.step _ h.2⟩))) | go_big_quiet_step ((go_at_call 162; exact (HC.out _).mono (fun _ _ h => ⟨h.1, BoxC.step _ h.2⟩))) | go_big_quiet_step ((go_at_call 163; exact (HL.out _).mono (fun _ _ h => ⟨h.1, BoxC.step _ h.2⟩))))
        refine wpQuiet_nil ?_
        rintro w5 ⟨t5, rfl⟩
        have HB6 : Hid (Below w.heap.size w t5.W) := Lib.hid (HB0.out.trans (t5.h.mono HB0.out.size))
        clear r0 r1 r2 r3 r4 nb HP HC HL x0 x1 y0 z0' g0 g1 g2 g3 g4 g5 g6 g7 g8 g9 g10
        go_wp2
        go_ret
        exact ⟨rfl, HB6.out⟩
end Go.Proofs.YtjejdcehlckfhaaGreat.gramn
/-
  TREES WITHIN THE LIMITS, AND CONDITIONS AT ALL NODES: mathematics alone.
-/
namespace Go.Proofs.YtjejdcehlckfhaaGreat.frm
open trm trmv terml termro

/-- R at all nodes -/
def allN (R : TermM → Prop) (t : TermM) : Prop :=
  TermM.rec (motive_1 := fun _ => Prop) (motive_2 := fun _ => Prop) (fun o n s l h => R (.mk o n s l) ∧ h) True (fun _ _ p q => p ∧ q) t
theorem allN_mk (R : TermM → Prop) (o : Int) (n : List UInt8) (s : Int) (l : List TermM) : allN R (.mk o n s l) ↔ R (.mk o n s l) ∧ ∀ a ∈ l, allN R a := by
  have : ∀ l : List TermM, (TermM.rec_1 (motive_1 := fun _ => Prop) (motive_2 := fun _ => Prop) (fun o n s l h => R (.mk o n s l) ∧ h) True (fun _ _ p q => p ∧ q) l : Prop) ↔ ∀ a ∈ l, allN R a := by
    intro l
    induction l with
    | nil => simp
    | cons a l ih =>
      rw [List.forall_mem_cons, ← ih]
      rfl
  rw [← this]
  rfl
theorem allN_eta (R : TermM → Prop) (t : TermM) : allN R t ↔ R t ∧ ∀ a ∈ t.args, allN R a := by cases t; exact allN_mk _ _ _ _ _
abbrev wide : TermM → Prop := allN fun t => t.args.length ≤ 7
def LimT (t : TermM) : Prop := size t ≤ 60 ∧ depth t ≤ 20 ∧ wide t
/-- what the pending nodes must still meet -/
def LimP (T : Pend) : Prop := ∀ p ∈ T, p.2 - 1 + depth p.1 ≤ 20 ∧ wide p.1
theorem depths_le {l : List TermM} {k : Nat} : depths l ≤ k ↔ ∀ a ∈ l, depth a ≤ k := by
  induction l with
  | nil => simp [depths]
  | cons a l ih =>
    have e : depths (a :: l) = max (depth a) (depths l) := rfl
    rw [e, List.forall_mem_cons, ← ih]
    omega
theorem limP_kids {t : TermM} {d : Nat} {T : Pend} (h1 : 1 ≤ d) (h2 : d ≤ 20) (h3 : t.args.length ≤ 7) : LimP ((t, d) :: T) ↔ LimP (kidsP t d ++ T) := by
  unfold LimP
  rw [List.forall_mem_cons, List.forall_mem_append]
  refine and_congr ?_ Iff.rfl
  have e : (∀ p ∈ kidsP t d, p.2 - 1 + depth p.1 ≤ 20 ∧ wide p.1) ↔ ∀ a ∈ t.args, d + depth a ≤ 20 ∧ wide a := by
    unfold kidsP
    simp only [List.mem_reverse, List.mem_map]
    constructor
    · intro h a ha; exact h _ ⟨a, ha, rfl⟩
    · rintro h _ ⟨a, ha, rfl⟩; exact h a ha
  rw [e]
  have hd := depth_eq t
  show d - 1 + depth t ≤ 20 ∧ wide t ↔ _
  unfold wide
  rw [allN_eta, hd]
  constructor
  · rintro ⟨q1, _, q2⟩ a ha
    have := depth_mem ha
    exact ⟨by omega, q2 a ha⟩
  · intro h
    refine ⟨?_, h3, fun a ha => (h a ha).2⟩
    have : depths t.args ≤ 20 - d := depths_le.2 (fun a ha => by have := (h a ha).1; omega)
    omega
theorem limP_no {t : TermM} {d : Nat} {T : Pend} (h : ¬ (d ≤ 20 ∧ t.args.length ≤ 7)) : ¬ LimP ((t, d) :: T) := by
  intro hp
  obtain ⟨q1, q2⟩ := hp (t, d) (by simp)
  have hd := depth_eq t
  have q1' : d - 1 + depth t ≤ 20 := q1
  have q3 := ((allN_eta _ t).1 q2).1
  exact h ⟨by omega, q3⟩
end Go.Proofs.YtjejdcehlckfhaaGreat.frm
/-
  everyNode: a condition at all nodes of a tree.
-/
namespace Go.Proofs.YtjejdcehlckfhaaGreat.termev
open Go.ChangeShapes Go.WideShapes Go.ChangeAt Go.RowKit
open mem dec rowl trm trmv terml termb termt termx termz termro termsd

/-- the node at this place reads as this term; its arguments are read in W0, and its cells aren't among the blocks F -/
def EntO (N lo : Nat) (W0 W1 : World) (F : List Nat) (e : Ent) (p : TermM × Nat) : Prop := e.2.2 = p.2 ∧ p.2 + depth p.1 ≤ 1073741824 ∧ e.1 < W1.heap.size ∧ e.1 ∉ F ∧ W1.cell? ⟨e.1, e.2.1, none⟩ = some (.int .i64 p.1.op) ∧ W1.cell? ⟨e.1, e.2.1 + 1, none⟩ = some (.string (bstr p.1.name)) ∧
  W1.cell? ⟨e.1, e.2.1 + 2, none⟩ = some (.int .i64 p.1.sort) ∧ ∃ v, W1.cell? ⟨e.1, e.2.1 + 3, none⟩ = some v ∧ HasTs N lo W0 v p.1.args ∧ Bnd p.1
theorem allE_imp {Q Q' : Ent → TermM × Nat → Prop} (h : ∀ e p, Q e p → Q' e p) : ∀ {L : List Ent} {T : Pend}, AllE Q L T → AllE Q' L T
  | [], [], _ => trivial
  | _ :: _, _ :: _, ⟨a, b⟩ => ⟨h _ _ a, allE_imp h b⟩
  | [], _ :: _, h' => h'.elim
  | _ :: _, [], h' => h'.elim
theorem ent_of {N lo : Nat} {W0 W1 : World} {F : List Nat} (hb : Below W0.heap.size W0 W1) (hF : ∀ k ∈ F, W0.heap.size ≤ k) (e : Ent) (p : TermM × Nat) (h : EntOk N lo W0 e p) : EntO N lo W0 W1 F e p := by
  obtain ⟨h1, h2, h3, c0, c1, c2, v, c3, h4, h5⟩ := h
  have k : ∀ y, W1.cell? ⟨e.1, y, none⟩ = W0.cell? ⟨e.1, y, none⟩ := fun y => hb.cell (p := ⟨e.1, y, none⟩) h3
  exact ⟨h1, h2, Nat.lt_of_lt_of_le h3 hb.size, fun hm => by have := hF _ hm; omega, (k _).trans c0, (k _).trans c1, (k _).trans c2, v, (k _).trans c3, h4, h5⟩
theorem chg_after {F G : List Nat} {a b c : World} (h : Chg F a b) (k : Chg G b c) (hG : ∀ x ∈ G, x ∈ F ∨ a.heap.size ≤ x) : Chg F a c :=
  ⟨k.os.trans h.os, k.tape.trans h.tape, k.output.trans h.output, Nat.le_trans h.size k.size, fun i hi hn => (k.block i (Nat.lt_of_lt_of_le hi h.size) (fun hm => by rcases hG i hm with h' | h'; exact hn h'; omega)).trans (h.block i hi hn)⟩
/-- the relation of the walk: the state lies in the blocks F -/
def ROE (W0 W1 : World) (N lo : Nat) (F : List Nat) (J : Pend → World → Prop) (n : Nat) (S : List Nat) (L : List Ent) (w : World) : Prop :=
  ∃ T : Pend, AllE (EntO N lo W0 W1 F) L T ∧ sizeP T ≤ n ∧ n ≤ 1073741824 ∧ (∀ k ∈ S, W1.heap.size ≤ k ∧ k < w.heap.size) ∧ Chg F W1 w ∧ J T w
theorem roe_visits {W0 W1 : World} {N lo : Nat} {F : List Nat} {J : Pend → World → Prop} (hb : Below W0.heap.size W0 W1) (hF : ∀ k ∈ F, W0.heap.size ≤ k ∧ k < W1.heap.size) (hJ : ∀ {T : Pend} {w w' : World}, J T w → (∀ k ∈ F, w'.heap[k]? = w.heap[k]?) → J T w') (vf : Nat) (cb : Array Value)
    (hv : ∀ (e : Ent) (t : TermM) (d : Nat) (T : Pend) (w : World), EntO N lo W0 W1 F e (t, d) → Chg F W1 w → J ((t, d) :: T) w → Calls Tryz.prog vf (#[placeV e] ++ cb) w fun ex w' => ∃ b, ex = .returned (.bool b) ∧ Chg F w w' ∧ J (if b then kidsP t d ++ T else T) w') : Visits vf cb (ROE W0 W1 N lo F J) where
  keep := by
    rintro n S S' L w w' ⟨T, h1, h2, h3, h4, h5, h6⟩ hc hS
    refine ⟨T, h1, h2, h3, fun k hk => ⟨?_, (hS k hk).2⟩, chg_after h5 hc (fun k hk => .inr (h4 k hk).1), hJ h6 (fun k hk => hc.block k (Nat.lt_of_lt_of_le (hF k hk).2 h5.size) (fun hm => by have := (hF k hk).2; have := (h4 k hm).1; omega))⟩
    rcases (hS k hk).1 with h | h
    · exact (h4 k h).1
    · exact Nat.le_trans h5.size h
  ent := by
    rintro n S e L w ⟨T, h1, h2, h3, h4, h5, h6⟩
    cases T with
    | nil => exact h1.elim
    | cons p T =>
      obtain ⟨⟨a1, a2, a3, _⟩, hL⟩ := h1
      have h8 := length_le_sizeP T
      have h9 := AllE.len hL
      have h10 : sizeP (p :: T) = size p.1 + sizeP T := rfl
      refine ⟨Nat.lt_of_lt_of_le a3 h5.size, fun hm => by have := (h4 _ hm).1; omega, by omega, h3, by omega⟩
  visit := by
    rintro n S e L w ⟨T, h1, h2, h3, h4, h5, h6⟩
    cases T with
    | nil => exact h1.elim
    | cons p T =>
      obtain ⟨t, d⟩ := p
      obtain ⟨hE, hL⟩ := h1
      have hE' := hE
      obtain ⟨a1, a2, a3, a4, c0, c1, c2, v, c3, hh, hbn⟩ := hE'
      have hsz : sizeP ((t, d) :: T) = 1 + sizes t.args + sizeP T := by rw [← size_eq]; rfl
      refine ⟨n - 1, by omega, (hv e t d T w hE h5 h6).mono ?_⟩
      rintro ex w' ⟨b, rfl, hc, hJ'⟩
      have h5' : Chg F W1 w' := chg_after h5 hc (fun k hk => .inl hk)
      have h4' : ∀ k ∈ S, W1.heap.size ≤ k ∧ k < w'.heap.size := fun k hk => ⟨(h4 k hk).1, Nat.lt_of_lt_of_le (h4 k hk).2 hc.size⟩
      refine ⟨b, rfl, hc.size, fun k hk hlt' => hc.block k hlt' (fun hm => by have := (hF k hm).2; have := (h4 k hk).1; omega), ?_⟩
      cases b with
      | false => exact .inl ⟨rfl, T, hL, by omega, by omega, h4', h5', hJ'⟩
      | true =>
        right
        obtain ⟨A, c, rfl, hh'⟩ := HasR.shape hh rfl
        have hdd := depth_eq t
        have a2' : d + depth t ≤ 1073741824 := a2
        obtain ⟨g, o, hA, hK⟩ := allE_kids (d := d) hh' (show d + 1 + depths t.args ≤ 1073741824 by omega)
        have hcell : w'.cell? ⟨e.1, e.2.1 + 3, none⟩ = some (.slice A t.args.length c) := (World.cell?_of_block (a := ⟨e.1, e.2.1 + 3, none⟩) (h5'.block _ a3 a4)).trans c3
        refine ⟨rfl, A, t.args.length, c, hcell, by have := sizes_len t.args; omega, hh'.len.2.2, g, o, hA, kidsP t d ++ T, ?_, ?_, by omega, h4', h5', hJ'⟩
        · rw [a1]; exact AllE.append (allE_imp (ent_of hb (fun k hk => (hF k hk).1)) hK) hL
        · rw [sizeP_append, sizeP_kids]; omega
/-- the function that holds is asked of each node, and the cell of the answer so far -/
def JE (c hb : Nat) (fv : Value) (J : Pend → World → Prop) (Ans : Bool → Prop) (T : Pend) (w : World) : Prop := ∃ a : Bool, w.cell? ⟨c, 0, none⟩ = some (.bool a) ∧ w.frozen? ⟨c, 0, none⟩ = false ∧ w.cell? ⟨hb, 0, none⟩ = some fv ∧ (a = true → J T w) ∧ (a = false → Ans false)
set_option maxRecDepth 50000 in
set_option maxHeartbeats 4000000 in
theorem everyVis (f : Nat) (bnd cap : Array Value) (eg : ∀ args w, (callFunc f args).run Tryz.prog w = .ok (.enter f args) w) (c hb g o d : Nat) (a : Bool) (w : World)
    (h : w.cell? ⟨c, 0, none⟩ = some (.bool a)) (hf : w.frozen? ⟨c, 0, none⟩ = false) (hh : w.cell? ⟨hb, 0, none⟩ = some (.func (.func f) bnd cap)) (F0 : List Nat) (Q : Bool → World → Prop)
    (hv : a = true → ∀ W, Below w.heap.size w W → Calls Tryz.prog f (bnd.push (placeV (g, o, d)) ++ cap) W fun ex w' => ∃ b, ex = .returned (.bool b) ∧ Chg F0 W w' ∧ Q b w') (hF0 : c ∉ F0 ∧ hb ∉ F0) (hne : c ≠ hb) :
    Calls Tryz.prog 160 (#[placeV (g, o, d)] ++ #[.pointer (some ⟨c, 0, none⟩), .pointer (some ⟨hb, 0, none⟩)]) w fun ex w' => ∃ b, ex = .returned (.bool b) ∧ Chg (c :: F0) w w' ∧ w'.cell? ⟨c, 0, none⟩ = some (.bool b) ∧ w'.frozen? ⟨c, 0, none⟩ = false ∧ w'.cell? ⟨hb, 0, none⟩ = some (.func (.func f) bnd cap) ∧ (a = false → b = false) ∧ (a = true → ∃ w1, Q b w1 ∧ ∀ k, k ≠ c → w'.heap[k]? = w1.heap[k]?) := by
  have hc := block_lt_of_cell h
  have hhb := block_lt_of_cell hh
  simp only [] at hc hhb
  unfold placeV ptr at hv ⊢
  show Calls _ _ #[.agg #[.pointer (some ⟨g, o, none⟩), .int .i64 d], .pointer (some ⟨c, 0, none⟩), .pointer (some ⟨hb, 0, none⟩)] _ _
  cases a with
  | false =>
    clear hv
    go_enter Tryz.func160, Tryz.ntmps160
    go_wp2
    go_ret
    refine ⟨false, rfl, ?_, ?_, ?_, ?_, fun _ => rfl, fun e => by cases e⟩
    · exact (Chg.set (S := c :: F0) (w := w) (by simp) (.bool false)).trans (Chg.of_below ((Below.refl _ _).alloc (Nat.le_refl _) _))
    · rw [((Below.refl (w.setCell ⟨c, 0, none⟩ (.bool false)).heap.size _).alloc (Nat.le_refl _) _).cell (p := ⟨c, 0, none⟩) (by show c < _; simpa [World.setCell] using hc)]
      exact World.cell?_setCell_same _ _ _ h
    · rw [((Below.refl (w.setCell ⟨c, 0, none⟩ (.bool false)).heap.size _).alloc (Nat.le_refl _) _).frozen (p := ⟨c, 0, none⟩) (by show c < _; simpa [World.setCell] using hc), World.frozen?_setCell]
      exact hf
    · rw [((Below.refl (w.setCell ⟨c, 0, none⟩ (.bool false)).heap.size _).alloc (Nat.le_refl _) _).cell (p := ⟨hb, 0, none⟩) (by show hb < _; simpa [World.setCell] using hhb)]
      exact (World.cell?_setCell_other w ⟨c, 0, none⟩ ⟨hb, 0, none⟩ _ (fun e => hne (congrArg Addr.block e))).trans hh
  | true =>
    have HV := Lib.hid (hv rfl)
    clear hv
    go_enter Tryz.func160, Tryz.ntmps160
    go_wp2_with fail
    have hb1 : Below w.heap.size w (w.alloc (.cells #[.pointer (some ⟨g, o, none⟩), .int .i64 d] 203)) := (Below.refl _ _).alloc (Nat.le_refl _) _
    refine (HV.out _ hb1).mono ?_
    rintro e w1 ⟨b, rfl, hch, hq⟩
    have hch1 : Chg F0 w w1 := (Chg.of_below hb1).trans hch
    have k1 : w1.cell? ⟨c, 0, none⟩ = some (.bool true) := (World.cell?_of_block (a := ⟨c, 0, none⟩) (hch1.block c hc hF0.1)).trans h
    have k2 : w1.frozen? ⟨c, 0, none⟩ = false := (World.frozen?_of_block (a := ⟨c, 0, none⟩) (hch1.block c hc hF0.1)).trans hf
    have k3 : w1.cell? ⟨hb, 0, none⟩ = some (.func (.func f) bnd cap) := (World.cell?_of_block (a := ⟨hb, 0, none⟩) (hch1.block hb hhb hF0.2)).trans hh
    have HF : Hid (Chg (c :: F0) w (w1.setCell ⟨c, 0, none⟩ (.bool b)) ∧ (w1.setCell ⟨c, 0, none⟩ (.bool b)).cell? ⟨c, 0, none⟩ = some (.bool b) ∧ (w1.setCell ⟨c, 0, none⟩ (.bool b)).frozen? ⟨c, 0, none⟩ = false ∧ (w1.setCell ⟨c, 0, none⟩ (.bool b)).cell? ⟨hb, 0, none⟩ = some (.func (.func f) bnd cap) ∧ ∃ w2, Q b w2 ∧ ∀ k, k ≠ c → (w1.setCell ⟨c, 0, none⟩ (.bool b)).heap[k]? = w2.heap[k]?) := Lib.hid
      ⟨(hch1.mono (fun k hk => by simp [hk])).trans (Chg.set (by simp) _), World.cell?_setCell_same _ _ _ k1, by rw [World.frozen?_setCell]; exact k2, (World.cell?_setCell_other w1 ⟨c, 0, none⟩ ⟨hb, 0, none⟩ _ (fun e => hne (congrArg Addr.block e))).trans k3, w1, hq, fun k hk => Below.heap_setCell w1 ⟨c, 0, none⟩ _ k hk⟩
    clear hch hq hch1 k3 hh HV h hf
    go_wp2
    go_ret
    obtain ⟨f1, f2, f3, f4, f5⟩ := HF.out
    exact ⟨b, rfl, f1, f2, f3, f4, (fun e => by cases e), fun _ => f5⟩
/-- what is asked of the condition -/
def Holds (f : Nat) (bnd cap : Array Value) (W0 W1 : World) (N lo : Nat) (F F0 : List Nat) (J : Pend → World → Prop) (Ans : Bool → Prop) : Prop :=
  ∀ (e : Ent) (t : TermM) (d : Nat) (T : Pend) (w : World), EntO N lo W0 W1 F e (t, d) → Chg F W1 w → J ((t, d) :: T) w → Calls Tryz.prog f (bnd.push (placeV e) ++ cap) w fun ex w' => ∃ b, ex = .returned (.bool b) ∧ Chg F0 w w' ∧ (b = true → J (kidsP t d ++ T) w') ∧ (b = false → Ans false)
theorem every_states (f : Nat) (bnd cap : Array Value) (eg : ∀ args w, (callFunc f args).run Tryz.prog w = .ok (.enter f args) w) {W0 W1 : World} {N lo c hb : Nat} {F0 : List Nat} {J : Pend → World → Prop} {Ans : Bool → Prop} (hbw : Below W0.heap.size W0 W1) (hF : ∀ k ∈ F0, W0.heap.size ≤ k ∧ k < W1.heap.size) (hF0 : c ∉ F0 ∧ hb ∉ F0) (hne : c ≠ hb)
    (hc : W0.heap.size ≤ c ∧ c < W1.heap.size) (hhb : W0.heap.size ≤ hb ∧ hb < W1.heap.size) (hJ : ∀ {T : Pend} {w w' : World}, J T w → (∀ k ∈ F0, w'.heap[k]? = w.heap[k]?) → J T w') (hv : Holds f bnd cap W0 W1 N lo (c :: hb :: F0) F0 J Ans) :
    Visits 160 #[.pointer (some ⟨c, 0, none⟩), .pointer (some ⟨hb, 0, none⟩)] (ROE W0 W1 N lo (c :: hb :: F0) (JE c hb (.func (.func f) bnd cap) J Ans)) :=
  roe_visits hbw (fun k hk => by
    simp only [List.mem_cons] at hk
    rcases hk with rfl | rfl | hk
    · exact hc
    · exact hhb
    · exact hF k hk) (by
    rintro T w w' ⟨a, h1, h2, h3, h4, h5⟩ hs
    exact ⟨a, same_cell h1 (hs c (by simp)), same_frozen h2 (hs c (by simp)), same_cell h3 (hs hb (by simp)), fun ha => hJ (h4 ha) (fun k hk => hs k (by simp [hk])), h5⟩) _ _ (by
    rintro ⟨g, o, d'⟩ t d T w hE hch ⟨a, h1, h2, h3, h4, h5⟩
    refine (everyVis f bnd cap eg c hb g o d' a w h1 h2 h3 F0 (fun b w' => (b = true → J (kidsP t d ++ T) w') ∧ (b = false → Ans false)) (fun ha W hW => ?_) hF0 hne).mono ?_
    · refine (hv (g, o, d') t d T W hE (hch.trans (Chg.of_below hW)) (hJ (h4 ha) (fun k hk => hW.block k (Nat.lt_of_lt_of_le (hF k hk).2 hch.size)))).mono ?_
      rintro ex w' ⟨b, rfl, q1, q2, q3⟩
      exact ⟨b, rfl, q1, q2, q3⟩
    · rintro ex w' ⟨b, rfl, q1, q2, q3, q4, q5, q6⟩
      refine ⟨b, rfl, q1.mono (fun k hk => by simp only [List.mem_cons] at hk ⊢; rcases hk with h | h; exact .inl h; exact .inr (.inr h)), ?_⟩
      cases a with
      | false =>
        obtain rfl := q5 rfl
        exact ⟨false, q2, q3, q4, (fun e => by cases e), fun _ => h5 rfl⟩
      | true =>
        obtain ⟨w1, ⟨r1, r2⟩, r3⟩ := q6 rfl
        refine ⟨b, q2, q3, q4, fun hb' => ?_, r2⟩
        subst hb'
        exact hJ (r1 rfl) (fun k hk => r3 k (fun e => hF0.1 (by rw [← e]; exact hk))))
theorem heap3a (w : World) (o1 o2 o3 : Obj) : (((w.alloc o1).alloc o2).alloc o3).heap[w.heap.size]? = some o1 := by
  show (((w.heap.push o1).push o2).push o3)[w.heap.size]? = some o1
  rw [Array.getElem?_push, if_neg (by simp; try omega), Array.getElem?_push, if_neg (by simp; try omega), Array.getElem?_push, if_pos rfl]
theorem heap3b (w : World) (o1 o2 o3 : Obj) : (((w.alloc o1).alloc o2).alloc o3).heap[w.heap.size + 1]? = some o2 := by
  show (((w.heap.push o1).push o2).push o3)[w.heap.size + 1]? = some o2
  rw [Array.getElem?_push, if_neg (by simp; try omega), Array.getElem?_push, if_pos (by simp; try omega)]
set_option maxRecDepth 50000 in
/-- impl.everyNode -/
theorem every_any {N lo f : Nat} {bnd cap : Array Value} (eg : ∀ args w, (callFunc f args).run Tryz.prog w = .ok (.enter f args) w) {W0 w : World} (t : TermM) (va : Value) (h : HasTs N lo W0 va t.args) (hB : Bnd t) (hsz : sizes t.args ≤ 1048576) (hb : Below W0.heap.size W0 w)
    {F0 : List Nat} {J : Pend → World → Prop} {Ans : Bool → Prop} (hF : ∀ k ∈ F0, W0.heap.size ≤ k ∧ k < w.heap.size) (hJ : ∀ {T : Pend} {w w' : World}, J T w → (∀ k ∈ F0, w'.heap[k]? = w.heap[k]?) → J T w')
    (hv : ∀ (W1 : World) (c hb : Nat), Below w.heap.size w W1 → w.heap.size ≤ c → w.heap.size ≤ hb → Holds f bnd cap W0 W1 N lo (c :: hb :: F0) F0 J Ans) (hJ0 : J [(t, 1)] w) (hend : ∀ w, J [] w → Ans true) :
    Calls Tryz.prog 111 #[aggT t va, .func (.func f) bnd cap] w fun e w' => ∃ r, e = .returned (.bool r) ∧ Ans r ∧ Chg F0 w w' := by
  obtain ⟨A, ca, rfl, _⟩ := HasR.shape h rfl
  have HH := Lib.hid h
  have HBN := Lib.hid hB
  have hst := size_eq t
  have hdt := depth_le t
  have hbz := hb.size
  have eg1 : ∀ args w, (callFunc 160 args).run Tryz.prog w = .ok (.enter 160 args) w := Go.Proofs.enters_of Tryz.func160 (by kernel_rfl) rfl
  have HC : Hid (∀ W1, Below w.heap.size w W1 → W1.heap.size = w.heap.size + 3 →
      W1.cell? ⟨w.heap.size, 0, none⟩ = some (.int .i64 t.op) → W1.cell? ⟨w.heap.size, 1, none⟩ = some (.string (bstr t.name)) → W1.cell? ⟨w.heap.size, 2, none⟩ = some (.int .i64 t.sort) → W1.cell? ⟨w.heap.size, 3, none⟩ = some (.slice A t.args.length ca) →
      W1.cell? ⟨w.heap.size + 1, 0, none⟩ = some (.func (.func f) bnd cap) → W1.cell? ⟨w.heap.size + 1 + 1, 0, none⟩ = some (.bool true) → W1.frozen? ⟨w.heap.size + 1 + 1, 0, none⟩ = false →
      Calls Tryz.prog 159 #[.pointer (some ⟨w.heap.size, 0, none⟩), .func (.func 160) #[] #[.pointer (some ⟨w.heap.size + 1 + 1, 0, none⟩), .pointer (some ⟨w.heap.size + 1, 0, none⟩)]] W1 fun e w' => e = .returned (.tuple #[]) ∧ ∃ r, w'.cell? ⟨w.heap.size + 1 + 1, 0, none⟩ = some (.bool r) ∧ Ans r ∧ Chg F0 w w') := Lib.hid (by
    intro W1 hW1 hs1 c0 c1 c2 c3 x0 z0 zf
    have hb1 : Below W0.heap.size W0 W1 := hb.trans (hW1.mono hbz)
    refine (walk_any _ _ eg1 _ (every_states f bnd cap eg (N := N) (lo := lo) (J := J) (Ans := Ans) (c := w.heap.size + 1 + 1) (hb := w.heap.size + 1) hb1 (fun k hk => ⟨(hF k hk).1, by have := (hF k hk).2; omega⟩) ⟨fun hm => by have := (hF _ hm).2; omega, fun hm => by have := (hF _ hm).2; omega⟩ (by omega) ⟨by omega, by omega⟩ ⟨by omega, by omega⟩ hJ (hv W1 _ _ hW1 (by omega) (by omega))) (size t) w.heap.size 0 W1 ⟨[(t, 1)], ⟨⟨rfl, by show 1 + depth t ≤ _; omega, by show w.heap.size < _; omega, ?_, c0, c1, c2, _, c3, HH.out, HBN.out⟩, trivial⟩, by simp [sizeP], by omega, fun k hk => by simp at hk, Chg.refl _ _, true, z0, zf, x0, fun _ => hJ hJ0 (fun k hk => hW1.block k (hF k hk).2), fun e => by cases e⟩).mono ?_
    · intro hm
      simp only [List.mem_cons] at hm
      rcases hm with hm | hm | hm
      · omega
      · omega
      · have := (hF _ hm).2
        omega
    · rintro e w' ⟨rfl, n', S, T, hA, _, _, _, hch, ⟨a, q1, q2, q3, q4, q5⟩⟩
      cases T with
      | cons p T => exact hA.elim
      | nil =>
        refine ⟨rfl, a, q1, ?_, ?_⟩
        · cases a with
          | false => exact q5 rfl
          | true => exact hend _ (q4 rfl)
        · refine ⟨hch.os.trans hW1.os, hch.tape.trans hW1.tape, hch.output.trans hW1.output, by have := hch.size; omega, fun k hk hn => ?_⟩
          rw [hch.block k (by omega) (by simp only [List.mem_cons]; intro hm; rcases hm with hm | hm | hm; omega; omega; exact hn hm)]
          exact hW1.block k hk)
  unfold aggT
  obtain ⟨q, hq⟩ : ∃ q, q = t.args.length := ⟨_, rfl⟩
  rw [← hq] at HC ⊢
  obtain ⟨to, hto⟩ : ∃ q, q = t.op := ⟨_, rfl⟩
  obtain ⟨tn, htn⟩ : ∃ q, q = t.name := ⟨_, rfl⟩
  obtain ⟨ts, hts⟩ : ∃ q, q = t.sort := ⟨_, rfl⟩
  rw [← hto, ← htn, ← hts] at HC ⊢
  clear h hB hsz hb hst hdt hbz hF hJ hv hJ0 hend hq hto htn hts
  go_enter Tryz.func111, Tryz.ntmps111
  go_wp2_with fail
  refine (HC.out _ ?_ ?_ ?_ ?_ ?_ ?_ ?_ ?_ ?_).mono ?_
  rotate_left 1
  · simp
  · exact cell_of_row _ _ 0 _ _ _ (heap3a _ _ _ _)
  · exact cell_of_row _ _ 1 _ _ _ (heap3a _ _ _ _)
  · exact cell_of_row _ _ 2 _ _ _ (heap3a _ _ _ _)
  · exact cell_of_row _ _ 3 _ _ _ (heap3a _ _ _ _)
  · exact cell_of_row _ _ 0 _ _ _ (heap3b _ _ _ _)
  rotate_left 3
  · repeat (first | exact Below.refl _ _ | refine Below.alloc ?_ (by first | (simp; done) | (simp; omega)) _)
  · exact cell_of_row _ _ 0 _ _ _ (heap_at _ _ _ (by simp))
  · exact frozen_of_row _ _ 0 _ _ (heap_at _ _ _ (by simp))
  rintro e w1 ⟨rfl, r, hr, hans, hch⟩
  go_wp2
  go_ret
  exact ⟨r, rfl, hans, hch⟩
end Go.Proofs.YtjejdcehlckfhaaGreat.termev
/-
  isWithinLimits.
-/
namespace Go.Proofs.YtjejdcehlckfhaaGreat.termlm
open Go.ChangeShapes Go.WideShapes Go.ChangeAt Go.RowKit
open mem dec rowl trm trmv terml termb termt termx termz termro termsd termev frm

/-- what a call at a node leaves -/
def LimV (cs k : Nat) (b : Bool) (w : World) (ex : Ending) (w' : World) : Prop := ex = .returned (.bool b) ∧ Chg [cs] w w' ∧ w'.cell? ⟨cs, 0, none⟩ = some (.int .i64 ((k : Int) + 1)) ∧ w'.frozen? ⟨cs, 0, none⟩ = false
set_option maxRecDepth 50000 in
set_option maxHeartbeats 4000000 in
theorem limVis (cs g o d k : Nat) (m c : Nat) (A : Option Addr) (w : World) (hk : k ≤ 60) (hd : d ≤ 1073741824) (hm : m ≤ 1073741824) (h : w.cell? ⟨cs, 0, none⟩ = some (.int .i64 k)) (hf : w.frozen? ⟨cs, 0, none⟩ = false)
    (t3 : w.cell? ⟨g, o + 3, none⟩ = some (.slice A m c)) (hne : g ≠ cs) (b : Bool) (hb : decide (k + 1 ≤ 60 ∧ d ≤ 20 ∧ m ≤ 7) = b) :
    Calls Tryz.prog 158 #[placeV (g, o, d), .pointer (some ⟨cs, 0, none⟩)] w (LimV cs k b w) := by
  have hc := block_lt_of_cell h
  have hg := block_lt_of_cell t3
  simp only [] at hc hg
  have HFIN : Hid (∀ (b' : Bool) (ob : Obj), b = b' → LimV cs k b w (.returned (.bool b')) ((w.setCell ⟨cs, 0, none⟩ (.int .i64 ((k : Int) + 1))).alloc ob)) := Lib.hid (fun b' ob hb' => by
    subst hb'
    have hW : Below w.heap.size (w.setCell ⟨cs, 0, none⟩ (.int .i64 ((k : Int) + 1))) ((w.setCell ⟨cs, 0, none⟩ (.int .i64 ((k : Int) + 1))).alloc ob) := (Below.refl _ _).alloc (by simp [World.setCell]) _
    refine ⟨rfl, (Chg.set (S := [cs]) (w := w) (by simp) _).trans (Chg.of_below ((Below.refl _ _).alloc (Nat.le_refl _) _)), ?_, ?_⟩
    · rw [hW.cell (p := ⟨cs, 0, none⟩) hc]; exact World.cell?_setCell_same _ _ _ h
    · rw [hW.frozen (p := ⟨cs, 0, none⟩) hc, World.frozen?_setCell]; exact hf)
  unfold placeV ptr
  have hw : IntKind.i64.wrap ((k : Int) + 1) = (k : Int) + 1 := IntWalk.i64_in _ (by omega)
  have hgc : ¬ cs = g := fun e => hne e.symm
  have hww : ¬ w.heap.size = cs := by omega
  by_cases h1 : k + 1 ≤ 60
  · have d1 : decide ((k : Int) + 1 ≤ 60) = true := decide_eq_true (by omega)
    by_cases h2 : d ≤ 20
    · have d2 : decide ((d : Int) ≤ 20) = true := decide_eq_true (by omega)
      by_cases h3 : m ≤ 7
      · have HB : Hid (b = true) := Lib.hid (by rw [← hb]; exact decide_eq_true ⟨h1, h2, h3⟩)
        have d3 : decide ((m : Int) ≤ 7) = true := decide_eq_true (by omega)
        clear hb hk hd hm
        go_enter Tryz.func158, Tryz.ntmps158
        go_wp2
        go_ret
        exact HFIN.out true _ HB.out
      · have HB : Hid (b = false) := Lib.hid (by rw [← hb]; exact decide_eq_false (fun e => h3 e.2.2))
        have d3 : decide ((m : Int) ≤ 7) = false := decide_eq_false (by omega)
        clear hb hk hd hm
        go_enter Tryz.func158, Tryz.ntmps158
        go_wp2
        go_ret
        exact HFIN.out false _ HB.out
    · have HB : Hid (b = false) := Lib.hid (by rw [← hb]; exact decide_eq_false (fun e => h2 e.2.1))
      have d2 : decide ((d : Int) ≤ 20) = false := decide_eq_false (by omega)
      clear hb hk hd hm
      go_enter Tryz.func158, Tryz.ntmps158
      go_wp2
      go_ret
      exact HFIN.out false _ HB.out
  · have HB : Hid (b = false) := Lib.hid (by rw [← hb]; exact decide_eq_false (fun e => h1 e.1))
    have d1 : decide ((k : Int) + 1 ≤ 60) = false := decide_eq_false (by omega)
    clear hb hk hd hm
    go_enter Tryz.func158, Tryz.ntmps158
    go_wp2
    go_ret
    exact HFIN.out false _ HB.out
/-- the count so far, and what is to be met still -/
def LimJ (cs : Nat) (t0 : TermM) (T : Pend) (w : World) : Prop := ∃ k : Nat, w.cell? ⟨cs, 0, none⟩ = some (.int .i64 k) ∧ w.frozen? ⟨cs, 0, none⟩ = false ∧ k + sizeP T = size t0 ∧ k ≤ 60 ∧ (depth t0 ≤ 20 ∧ wide t0 ↔ LimP T) ∧ ∀ p ∈ T, 1 ≤ p.2
theorem lim_holds (cs : Nat) (t0 : TermM) (h60 : size t0 ≤ 1073741824) (W0 W1 : World) (N lo : Nat) (F : List Nat) (hcs : cs ∈ F) :
    Holds 158 #[] #[.pointer (some ⟨cs, 0, none⟩)] W0 W1 N lo F [cs] (LimJ cs t0) (fun r => r = true ↔ LimT t0) := by
  rintro ⟨g, o, d'⟩ t d T w ⟨a1, a2, a3, a4, c0, c1, c2, v, c3, hh, hbn⟩ hch ⟨k, h1, h2, h3, h4, h5, h6⟩
  simp only [] at a1 a2 a3 a4 c3
  subst a1
  obtain ⟨A, c, rfl, _⟩ := HasR.shape hh rfl
  have hsz : sizeP ((t, d') :: T) = size t + sizeP T := rfl
  have hst := size_eq t
  have hsl := sizes_len t.args
  have hd1 : 1 ≤ d' := h6 (t, d') (by simp)
  have hg : g ≠ cs := fun e => a4 (by rw [e]; exact hcs)
  have t3 : w.cell? ⟨g, o + 3, none⟩ = some (.slice A t.args.length c) := (World.cell?_of_block (a := ⟨g, o + 3, none⟩) (hch.block g a3 a4)).trans c3
  refine (limVis cs g o d' k t.args.length c A w h4 (by omega) (by omega) h1 h2 t3 hg _ rfl).mono ?_
  rintro ex w' ⟨rfl, q1, q2, q3⟩
  refine ⟨_, rfl, q1, fun hb => ?_, fun hb => ?_⟩
  · obtain ⟨b1, b2, b3⟩ := of_decide_eq_true hb
    refine ⟨k + 1, q2, q3, ?_, b1, h5.trans (limP_kids hd1 b2 b3), fun p hp => ?_⟩
    · rw [sizeP_append, sizeP_kids]; omega
    · rcases List.mem_append.1 hp with hp | hp
      · unfold kidsP at hp
        simp only [List.mem_reverse, List.mem_map] at hp
        obtain ⟨a, _, rfl⟩ := hp
        show 1 ≤ d' + 1; omega
      · exact h6 p (by simp [hp])
  · have hb := of_decide_eq_false hb
    constructor
    · intro e; cases e
    · rintro ⟨l1, l2⟩
      exfalso
      have hp := h5.1 l2
      by_cases hk : k + 1 ≤ 60
      · exact limP_no (fun hx => hb ⟨hk, hx.1, hx.2⟩) hp
      · omega
set_option maxRecDepth 50000 in
/-- impl.isWithinLimits -/
theorem within_any {N lo : Nat} {W0 w : World} (t : TermM) (va : Value) (h : HasTs N lo W0 va t.args) (hB : Bnd t) (hsz : sizes t.args ≤ 1048576) (hb : Below W0.heap.size W0 w) :
    Calls Tryz.prog 110 #[aggT t va] w fun e w' => ∃ r, e = .returned (.bool r) ∧ (r = true ↔ LimT t) ∧ Below w.heap.size w w' := by
  obtain ⟨A, ca, rfl, _⟩ := HasR.shape h rfl
  have hst := size_eq t
  have hbz := hb.size
  have eg : ∀ args w, (callFunc 158 args).run Tryz.prog w = .ok (.enter 158 args) w := Go.Proofs.enters_of Tryz.func158 (by kernel_rfl) rfl
  have HC : Hid (∀ W, Below w.heap.size w W → W.heap.size = w.heap.size + 2 → W.cell? ⟨w.heap.size + 1, 0, none⟩ = some (.int .i64 0) → W.frozen? ⟨w.heap.size + 1, 0, none⟩ = false →
      Calls Tryz.prog 111 #[aggT t (.slice A t.args.length ca), .func (.func 158) #[] #[.pointer (some ⟨w.heap.size + 1, 0, none⟩)]] W fun e w' => ∃ r, e = .returned (.bool r) ∧ (r = true ↔ LimT t) ∧ Below w.heap.size w w') := Lib.hid (by
    intro W hW hs z0 zf
    refine (every_any eg (W0 := W0) t _ h hB hsz (hb.trans (hW.mono hbz)) (F0 := [w.heap.size + 1]) (J := LimJ (w.heap.size + 1) t) (Ans := fun r => r = true ↔ LimT t) (fun k hk => ?_) ?_ (fun W1 c hb' _ _ _ => lim_holds _ t (by omega) W0 W1 N lo _ (by simp)) ⟨0, z0, zf, by simp [sizeP], by omega, ?_, fun p hp => ?_⟩ ?_).mono ?_
    · simp at hk; omega
    · rintro T w1 w2 ⟨k, q1, q2, q3⟩ hs2
      exact ⟨k, same_cell q1 (hs2 _ (by simp)), same_frozen q2 (hs2 _ (by simp)), q3⟩
    · unfold LimP
      simp
    · simp at hp; subst hp; show 1 ≤ 1; omega
    · rintro w1 ⟨k, _, _, q3, q4, q5, _⟩
      simp only [sizeP] at q3
      exact ⟨fun _ => ⟨by omega, q5.2 (fun p hp => by simp at hp)⟩, fun _ => rfl⟩
    · rintro e w' ⟨r, rfl, hr, hch⟩
      exact ⟨r, rfl, hr, hW.trans (hch.below (by omega) (fun k hk => by simp at hk; omega))⟩)
  unfold aggT at HC ⊢
  obtain ⟨q, hq⟩ : ∃ q, q = t.args.length := ⟨_, rfl⟩
  rw [← hq] at HC ⊢
  obtain ⟨to, hto⟩ : ∃ q, q = t.op := ⟨_, rfl⟩
  obtain ⟨tn, htn⟩ : ∃ q, q = t.name := ⟨_, rfl⟩
  obtain ⟨ts, hts⟩ : ∃ q, q = t.sort := ⟨_, rfl⟩
  rw [← hto, ← htn, ← hts] at HC ⊢
  clear h hB hsz hb hst hbz hq hto htn hts
  go_enter Tryz.func110, Tryz.ntmps110
  go_wp2_with fail
  refine (HC.out _ ?_ ?_ ?_ ?_).mono ?_
  · repeat (first | exact Below.refl _ _ | refine Below.alloc ?_ (by first | (simp; done) | (simp; omega)) _)
  · simp
  · exact cell_of_row _ _ 0 _ _ _ (heap_at _ _ _ (by simp))
  · exact frozen_of_row _ _ 0 _ _ (heap_at _ _ _ (by simp))
  rintro e w1 ⟨r, rfl, hr, hb1⟩
  have HR := Lib.hid hr
  clear hr
  go_wp2
  go_ret
  exact ⟨r, rfl, HR.out, hb1⟩
end Go.Proofs.YtjejdcehlckfhaaGreat.termlm
/-
  isTerm.
-/
namespace Go.Proofs.YtjejdcehlckfhaaGreat.gramt
open Go.ChangeShapes Go.WideShapes Go.ChangeAt Go.RowKit
open mem dec setm sets sortm sortn sortp sorti rowl trm trmv terml termb termt termx termz termro termsd termvr termev frm termlm sigi gram gramo graml gramk gramc gramn

theorem sizes_mem : ∀ {l : List TermM} {a : TermM}, a ∈ l → size a ≤ sizes l
  | b :: l, a, h => by
    have e : sizes (b :: l) = size b + sizes l := rfl
    rcases List.mem_cons.1 h with rfl | h
    · omega
    · have := sizes_mem h
      omega
/-- a term of a grammar: within the limits, each node as it should be -/
def GTerm (G : GrM) (t : TermM) : Prop := LimT t ∧ allN (NodeP G) t
/-- what the pending nodes must still meet -/
def NodJ (G : GrM) (t0 : TermM) (T : Pend) (_ : World) : Prop := (∀ p ∈ T, sizes p.1.args ≤ 1048576) ∧ (allN (NodeP G) t0 ↔ ∀ p ∈ T, allN (NodeP G) p.1)
theorem node_holds {N lo : Nat} (G : GrM) (hG : GrOk G) (mv : Value) (A : Option Addr) (n c : Nat) (t0 : TermM) (W0 W1 : World) (hM : HasM W0 mv (.slice A n c) G) (hn : n = G.E.length) (hb : Below W0.heap.size W0 W1) (F : List Nat) (hF : ∀ k ∈ F, W0.heap.size ≤ k) :
    Holds 112 #[.agg #[mv, .slice A n c]] #[] W0 W1 N lo F [] (NodJ G t0) (fun r => r = true ↔ allN (NodeP G) t0) := by
  rintro ⟨g, o, d'⟩ t d T w ⟨a1, a2, a3, a4, c0, c1, c2, v, c3, hh, hbn⟩ hch ⟨h1, h2⟩
  simp only [] at a1 a2 a3 a4 c0 c1 c2 c3 hh hbn
  subst a1
  obtain ⟨B, cb, rfl, _⟩ := HasR.shape hh rfl
  have hbw : Below W0.heap.size W0 w := hb.trans (hch.below hb.size hF)
  have kc : ∀ y, w.cell? ⟨g, y, none⟩ = W1.cell? ⟨g, y, none⟩ := fun y => World.cell?_of_block (a := ⟨g, y, none⟩) (hch.block g a3 a4)
  obtain ⟨r, hr⟩ : ∃ r : Bool, r = true ↔ NodeP G t := by
    by_cases hq : NodeP G t
    · exact ⟨true, fun _ => hq, fun _ => rfl⟩
    · exact ⟨false, fun e => absurd e (by simp), fun e => absurd e hq⟩
  refine (isNode_any G hG mv A n c t g o d' B cb w (hM.below hbw) hn ((kc _).trans c0) ((kc _).trans c1) ((kc _).trans c2) ((kc _).trans c3) (hh.below (Nat.le_refl _) hbw) hbn (by have := h1 (t, d') (by simp); simp only [] at this; omega) r hr).mono ?_
  rintro ex w' ⟨rfl, hb'⟩
  have hall : allN (NodeP G) t ↔ NodeP G t ∧ ∀ a ∈ t.args, allN (NodeP G) a := allN_eta _ t
  refine ⟨r, rfl, Chg.of_below hb', fun hrt => ⟨fun p hp => ?_, ?_⟩, fun hrf => ?_⟩
  · rcases List.mem_append.1 hp with hp | hp
    · unfold kidsP at hp
      simp only [List.mem_reverse, List.mem_map] at hp
      obtain ⟨a, ha, rfl⟩ := hp
      have q1 := h1 (t, d') (by simp)
      simp only [] at q1
      have q2 := sizes_mem ha
      have q3 := size_eq a
      show sizes a.args ≤ _
      omega
    · exact h1 p (by simp [hp])
  · rw [h2, List.forall_mem_cons, List.forall_mem_append]
    refine and_congr ?_ Iff.rfl
    have e : (∀ p ∈ kidsP t d', allN (NodeP G) p.1) ↔ ∀ a ∈ t.args, allN (NodeP G) a := by
      unfold kidsP
      simp only [List.mem_reverse, List.mem_map]
      constructor
      · intro h a ha; exact h _ ⟨a, ha, rfl⟩
      · rintro h _ ⟨a, ha, rfl⟩; exact h a ha
    rw [e]
    show allN (NodeP G) t ↔ _
    rw [hall]
    exact ⟨fun q => q.2, fun q => ⟨hr.1 hrt, q⟩⟩
  · constructor
    · intro e; cases e
    · intro q
      exfalso
      have := ((h2.1 q) (t, d') (by simp))
      have q2 := hr.2 (hall.1 this).1
      rw [hrf] at q2
      cases q2
set_option maxRecDepth 50000 in
set_option maxHeartbeats 4000000 in
theorem isTerm_any {N lo : Nat} (G : GrM) (hG : GrOk G) (mv : Value) (A : Option Addr) (n c : Nat) (t : TermM) (va : Value) (w : World) (hM : HasM w mv (.slice A n c) G) (hn : n = G.E.length) (h : HasTs N lo w va t.args) (hB : Bnd t) (hsz : sizes t.args ≤ 1048576) :
    Calls Tryz.prog 60 #[.agg #[mv, .slice A n c], aggT t va] w fun e w' => ∃ r, e = .returned (.bool r) ∧ (r = true ↔ GTerm G t) ∧ Below w.heap.size w w' := by
  obtain ⟨mm, rfl⟩ := mapU_shape hM.m
  obtain ⟨B, cb, rfl, _⟩ := HasR.shape h rfl
  have eg : ∀ args w, (callFunc 112 args).run Tryz.prog w = .ok (.enter 112 args) w := Go.Proofs.enters_of Tryz.func112 (by kernel_rfl) rfl
  have HW : Hid (∀ W, Below w.heap.size w W → Calls Tryz.prog 110 #[aggT t (.slice B t.args.length cb)] W fun e w' => ∃ r, e = .returned (.bool r) ∧ (r = true ↔ LimT t) ∧ Below W.heap.size W w') := Lib.hid (fun W hW => within_any t _ h hB hsz hW)
  have HE : Hid (∀ W, Below w.heap.size w W → Calls Tryz.prog 111 #[aggT t (.slice B t.args.length cb), .func (.func 112) #[.agg #[.map mm, .slice A n c]] #[]] W fun e w' => ∃ r, e = .returned (.bool r) ∧ (r = true ↔ allN (NodeP G) t) ∧ Below w.heap.size w w') := Lib.hid (fun W hW => by
    refine (every_any eg (W0 := w) (lo := lo) (N := N) t _ h hB hsz hW (F0 := []) (J := NodJ G t) (Ans := fun r => r = true ↔ allN (NodeP G) t) (fun k hk => by simp at hk) (fun q _ => q) (fun W1 c' hb' q1 q2 q3 => node_holds G hG _ A n c t w W1 hM hn (hW.trans (q1.mono hW.size)) _ (fun k hk => ?_)) ⟨fun p hp => ?_, ?_⟩ ?_).mono ?_
    · have := hW.size
      simp at hk
      omega
    · simp at hp; subst hp; exact hsz
    · simp
    · rintro w1 ⟨_, q⟩
      exact ⟨fun _ => q.2 (fun p hp => by simp at hp), fun _ => rfl⟩
    · rintro e w' ⟨r, rfl, hr, hch⟩
      exact ⟨r, rfl, hr, hW.trans (hch.below hW.size (fun k hk => by simp at hk))⟩)
  unfold aggT at HW HE ⊢
  obtain ⟨q, hq⟩ : ∃ q, q = t.args.length := ⟨_, rfl⟩
  rw [← hq] at HW HE ⊢
  obtain ⟨to, hto⟩ : ∃ q, q = t.op := ⟨_, rfl⟩
  obtain ⟨tn, htn⟩ : ∃ q, q = t.name := ⟨_, rfl⟩
  obtain ⟨ts, hts⟩ : ∃ q, q = t.sort := ⟨_, rfl⟩
  rw [← hto, ← htn, ← hts] at HW HE ⊢
  clear hM hn h hB hsz hq hto htn hts eg hG
  have hb0 : Below w.heap.size w ((w.alloc (.cells #[.map mm, .slice A n c] 80)).alloc (.cells #[.int .i64 to, .string (bstr tn), .int .i64 ts, .slice B q cb] 44)) := by
    repeat (first | exact Below.refl _ _ | refine Below.alloc ?_ (by first | (simp; done) | (simp; omega)) _)
  have HB0 := Lib.hid hb0
  clear hb0
  go_enter Tryz.func60, Tryz.ntmps60
  go_wp2_with fail
  refine (HW.out _ HB0.out).mono ?_
  rintro e w1 ⟨r, rfl, hr, hb1⟩
  have HR := Lib.hid hr
  have hbw1 := HB0.out.trans (hb1.mono HB0.out.size)
  have HX : w1.heap[w.heap.size]? = some (.cells #[.map mm, .slice A n c] 80 (0, 0)) := (hb1.block _ (by first | (simp; done) | (simp; omega))).trans (heap2a _ _ _)
  have HY : w1.heap[w.heap.size + 1]? = some (.cells #[.int .i64 to, .string (bstr tn), .int .i64 ts, .slice B q cb] 44 (0, 0)) := (hb1.block _ (by first | (simp; done) | (simp; omega))).trans (heap_at _ _ _ (by simp))
  have x0 := cell_of_row _ _ 0 _ _ _ HX
  have x1 := cell_of_row _ _ 1 _ _ _ HX
  have y0 := cell_of_row _ _ 0 _ _ _ HY
  have y1 := cell_of_row _ _ 1 _ _ _ HY
  have y2 := cell_of_row _ _ 2 _ _ _ HY
  have y3 := cell_of_row _ _ 3 _ _ _ HY
  have HB1 := Lib.hid hbw1
  clear hr hb1 hbw1 HX HY HW HB0
  cases r with
  | false =>
    go_wp2
    go_ret
    exact ⟨false, rfl, ⟨(fun e => by cases e), (fun e => absurd (HR.out.2 e.1) (by simp))⟩, HB1.out⟩
  | true =>
    go_wp2_with fail
    refine (HE.out _ HB1.out).mono ?_
    rintro e w2 ⟨r, rfl, hr, hb2⟩
    have HR2 := Lib.hid hr
    have HB2 := Lib.hid hb2
    clear hr hb2 x0 x1 y0 y1 y2 y3
    go_wp2
    go_ret
    exact ⟨r, rfl, ⟨fun e => ⟨HR.out.1 (by first | rfl | trivial), HR2.out.1 e⟩, fun e => HR2.out.2 e.2⟩, HB2.out⟩
end Go.Proofs.YtjejdcehlckfhaaGreat.gramt
/-
  impl.IsTerm.
-/
namespace Go.Proofs.YtjejdcehlckfhaaGreat.grami
open Go.ChangeShapes Go.WideShapes Go.ChangeAt Go.RowKit
open mem dec setm sets sortm sortn sortp sorti sigm sigs sigt rowl trm trmv terml termb termt termx termz termro termsd termvr termev frm termlm sigi sigj sigk gram gramo graml gramk gramc gramn gramt

theorem box3 {w : World} {x : Nat} {v0 v1 v2 : Value} {t : TypeId} (h : w.heap[x]? = some (.cells #[v0, v1, v2] t (0, 0))) : w.cell? ⟨x, 0, none⟩ = some v0 ∧ w.cell? ⟨x, 1, none⟩ = some v1 ∧ w.cell? ⟨x, 2, none⟩ = some v2 :=
  ⟨cell_of_row w x 0 _ _ _ h, cell_of_row w x 1 _ _ _ h, cell_of_row w x 2 _ _ _ h⟩
theorem box4 {w : World} {x : Nat} {v0 v1 v2 v3 : Value} {t : TypeId} (h : w.heap[x]? = some (.cells #[v0, v1, v2, v3] t (0, 0))) : w.cell? ⟨x, 0, none⟩ = some v0 ∧ w.cell? ⟨x, 1, none⟩ = some v1 ∧ w.cell? ⟨x, 2, none⟩ = some v2 ∧ w.cell? ⟨x, 3, none⟩ = some v3 :=
  ⟨cell_of_row w x 0 _ _ _ h, cell_of_row w x 1 _ _ _ h, cell_of_row w x 2 _ _ _ h, cell_of_row w x 3 _ _ _ h⟩
/-- two boxes: a signature's and a term's -/
abbrev Box34 (x y : Nat) (v0 v1 v2 u0 u1 u2 u3 : Value) (w : World) : Prop := (w.cell? ⟨x, 0, none⟩ = some v0 ∧ w.cell? ⟨x, 1, none⟩ = some v1 ∧ w.cell? ⟨x, 2, none⟩ = some v2) ∧ (w.cell? ⟨y, 0, none⟩ = some u0 ∧ w.cell? ⟨y, 1, none⟩ = some u1 ∧ w.cell? ⟨y, 2, none⟩ = some u2 ∧ w.cell? ⟨y, 3, none⟩ = some u3)
theorem Box34.below {x y : Nat} {v0 v1 v2 u0 u1 u2 u3 : Value} {w w' : World} (h : Box34 x y v0 v1 v2 u0 u1 u2 u3 w) (hb : Below w.heap.size w w') : Box34 x y v0 v1 v2 u0 u1 u2 u3 w' := by
  obtain ⟨⟨h0, h1, h2⟩, k0, k1, k2, k3⟩ := h
  have k : ∀ {a : Addr} {v : Value}, w.cell? a = some v → w'.cell? a = some v := fun {a v} h => (hb.cell (p := a) (block_lt_of_cell h)).trans h
  exact ⟨⟨k h0, k h1, k h2⟩, k k0, k k1, k k2, k k3⟩
theorem grOk_gr (P : List (List UInt8)) (Q : List (Int × Int)) (O : List OpM) : GrOk (grM P Q O) := by
  unfold grM
  split
  · rename_i hok
    obtain ⟨_, h14, _, hd, hx⟩ := sigOk_parts hok
    intro j hj
    have hj' : j < O.length := by simpa [opsE] using hj
    have hm : O.getD j default ∈ O := by rw [List.getD_eq_getElem?_getD, List.getElem?_eq_getElem hj']; exact List.getElem_mem _
    rw [opsE_at O _ hj', shps_get _ O j hj']
    have h1 := declsOk_parts (hd _ hm)
    have h2 := okD_parts h1.2.2.2
    have h3 := hx _ hm
    refine ⟨rfl, h2.1, ?_⟩
    simp only [axOk, unitOk, Bool.and_eq_true, Bool.or_eq_true, decide_eq_true_eq] at h3
    show 0 ≤ (O.getD j default).unt ∧ I64 (O.getD j default).unt
    have h4 := h3.2
    unfold I64
    rcases h4 with h4 | h4
    · omega
    · have := h4.1.1
      omega
  · intro j hj
    exact absurd hj (Nat.not_lt_zero _)
end Go.Proofs.YtjejdcehlckfhaaGreat.grami
/-
  CONTRACTS OF THE MODEL'S FUNCTIONS ON TERMS: SizeOfTerm, DepthOfTerm, CompareTerms, l5Same, OccursIn.
-/
namespace Go.Proofs.YtjejdcehlckfhaaGreat.termv
open Go.ChangeShapes Go.WideShapes Go.ChangeAt Go.RowKit
open mem dec rowl trm trmv terml termb termt termu

theorem size_eq (t : TermM) : size t = 1 + sizes t.args := by cases t; exact size_mk _ _ _ _
theorem depth_eq (t : TermM) : depth t = depths t.args + 1 := by cases t; exact depth_mk _ _ _ _
theorem depths_cons (a : TermM) (l : List TermM) : depths (a :: l) = max (depth a) (depths l) := rfl
/-- spec.l1Max -/
theorem max_any (a b : Nat) (w : World) : Calls Tryz.prog 172 #[.int .i64 a, .int .i64 b] w fun e w' => e = .returned (.int .i64 ((max a b : Nat) : Int)) ∧ w = w' := by
  by_cases h : b < a
  · have e : max a b = a := by omega
    rw [e]
    go_enter Tryz.func172, Tryz.ntmps172
    go_wp2
    go_ret
    exact ⟨rfl, rfl⟩
  · have e : max a b = b := by omega
    rw [e]
    go_enter Tryz.func172, Tryz.ntmps172
    go_wp2
    go_ret
    exact ⟨rfl, rfl⟩
theorem depths_take {L : List TermM} {k : Nat} (h : k < L.length) : depths (L.take (k + 1)) = max (depths (L.take k)) (depth (L.getD k default)) := by
  rw [List.take_succ_eq_append_getElem h, getD_at h]
  generalize L[k] = t
  induction L.take k with
  | nil => simp [depths]
  | cons a l ih => rw [List.cons_append, depths_cons, depths_cons, ih]; omega
theorem depth_le_size : ∀ t, depth t ≤ size t := by
  refine TermM.ind (fun o n s l ih => ?_)
  rw [depth_mk, size_mk]
  have : depths l ≤ sizes l := by
    induction l with
    | nil => simp [depths]
    | cons a l ih2 =>
      have h1 := ih a (by simp)
      have h2 := ih2 (fun t ht => ih t (by simp [ht]))
      rw [depths_cons]
      simp only [sizes, List.map_cons, List.sum_cons] at h2 ⊢
      omega
  omega
theorem depths_le (L : List TermM) : depths L ≤ sizes L := by
  induction L with
  | nil => simp [depths]
  | cons a l ih2 =>
    have h1 := depth_le_size a
    rw [depths_cons]
    simp only [sizes, List.map_cons, List.sum_cons] at ih2 ⊢
    omega
/-- spec.DepthOfTerm, at arguments of at most this depth -/
def DepthT (n : Nat) : Prop := ∀ (op : Int) (l : List UInt8) (s : Int) (L : List TermM) (v : Value) (w : World) (lo : Nat), HasTs n lo w v L → sizes L ≤ 1048576 →
  Calls Tryz.prog 128 #[.agg #[.int .i64 op, .string (bstr l), .int .i64 s, v]] w fun e w' => e = .returned (.int .i64 ((depths L + 1 : Nat) : Int)) ∧ Below w.heap.size w w'
theorem depthT_step {n : Nat} (hS : ∀ k, n = k + 1 → DepthT k) : DepthT n := by
  intro op l s L v w lo h hsz
  obtain ⟨N, hN⟩ : ∃ N, N = L.length := ⟨_, rfl⟩
  obtain ⟨A, c, rfl, h⟩ := HasR.shape h hN.symm
  have hNl : N ≤ 1048576 := by have := sizes_len L; omega
  have HN := Lib.hid hN
  have HH := Lib.hid h
  have HS := Lib.hid hS
  have HSZ := Lib.hid hsz
  clear h hN hS hsz
  go_enter Tryz.func128, Tryz.ntmps128
  go_wp2
  generalize hW : w.alloc (.cells #[.int .i64 op, .string (bstr l), .int .i64 s, .slice A N c] 44) = W
  have hb0 : Below w.heap.size w W := by rw [← hW]; exact (Below.refl _ _).alloc (Nat.le_refl _) _
  have hlt0 : w.heap.size < W.heap.size := by rw [← hW]; simp
  have hbox : W.cell? ⟨w.heap.size, 3, none⟩ = some (.slice A N c) := by rw [← hW]; simp
  clear hW
  go_loopw [3, 4] (fun v i wr => ∃ (k : Nat), k ≤ N ∧ i = .int .i64 k ∧ v = .int .i64 ((depths (L.take k) : Nat) : Int) ∧ Below W.heap.size W wr) (fun _ i _ => N - (intOf i).toNat)
  case atStart => exact ⟨0, Nat.zero_le _, rfl, by simp [depths], Below.refl _ _⟩
  case round =>
    obtain ⟨k, hk, rfl, rfl, hbel⟩ := hrel
    have hbx : wr.cell? ⟨w.heap.size, 3, none⟩ = some (.slice A N c) := (hbel.cell (p := ⟨w.heap.size, 3, none⟩) hlt0).trans hbox
    have hdl : depths (L.take k) ≤ 1048576 := by
      have h1 := depths_le (L.take k)
      have h2 : sizes (L.take k) ≤ sizes L := by
        have e : sizes L = sizes (L.take k) + sizes (L.drop k) := by
          conv => lhs; rw [← List.take_append_drop k L]
          simp only [sizes, List.map_append, List.sum_append]
        omega
      have := HSZ.out
      omega
    by_cases hlt : k < N
    · have hlt2 : k < L.length := by have := HN.out; omega
      have hbw : Below w.heap.size w wr := hb0.trans (hbel.mono (Nat.le_of_lt hlt0))
      obtain ⟨k', g, o, A2, c2, hnk, rfl, _, hg, hc0, hc1, hc2, hc3, hh, _⟩ := term_at HH.out hlt
      rw [← hbw.cell (p := ⟨g, o + k * 4, none⟩) hg] at hc0
      rw [← hbw.cell (p := ⟨g, o + k * 4 + 1, none⟩) hg] at hc1
      rw [← hbw.cell (p := ⟨g, o + k * 4 + 2, none⟩) hg] at hc2
      rw [← hbw.cell (p := ⟨g, o + k * 4 + 3, none⟩) hg] at hc3
      have hh2 := hh.below (Nat.le_refl _) hbw
      have hst : depths (L.take (k + 1)) = max (depths (L.take k)) (depth (L.getD k default)) := depths_take hlt2
      have hsl : size (L.getD k default) ≤ 1048576 := by have := size_le_sizes hlt2; have := HSZ.out; omega
      obtain ⟨t, ht⟩ : ∃ t, t = L.getD k default := ⟨_, rfl⟩
      rw [← ht] at hc0 hc1 hc2 hc3 hh2 hst hsl
      have hsz2 : size t = 1 + sizes t.args := size_eq t
      have hsz3 : depth t = depths t.args + 1 := depth_eq t
      have hdz := depth_le_size t
      have HT := Lib.hid (HS.out k' hnk t.op t.name t.sort t.args _ wr lo hh2 (by omega))
      rw [← hsz3] at HT
      obtain ⟨q, hq⟩ : ∃ q, q = t.args.length := ⟨_, rfl⟩
      rw [← hq] at hc3 HT
      obtain ⟨z, hz⟩ : ∃ z, z = depth t := ⟨_, rfl⟩
      rw [← hz] at HT hst hdz
      obtain ⟨y, hy⟩ : ∃ y, y = depths (L.take k) := ⟨_, rfl⟩
      rw [← hy] at hst hdl ⊢
      have HST := Lib.hid hst
      have hz2 : z ≤ 1048576 := by omega
      clear hh hh2 hq ht hz hy hsz2 hsz3 hsl hst hdz
      go_wp2_with fail
      refine HT.out.mono ?_
      rintro e w2 ⟨rfl, hb2⟩
      have hbw2 := hbel.trans (hb2.mono hbel.size)
      clear hb2
      go_wp2_with fail
      refine (max_any y z _).mono ?_
      rintro e w3 ⟨rfl, rfl⟩
      go_wp2
      go_roundw
      case rel => exact ⟨k + 1, by omega, by go_num, by rw [HST.out], hbw2⟩
      case measure => simp [intOf]; omega
    · obtain rfl : k = N := by omega
      have HE : Hid (depths (L.take k) = depths L) := Lib.hid (by rw [HN.out, List.take_length])
      have hb3 : Below w.heap.size w wr := hb0.trans (hbel.mono (Nat.le_of_lt hlt0))
      obtain ⟨y, hy⟩ : ∃ y, y = depths (L.take k) := ⟨_, rfl⟩
      rw [← hy] at hdl HE ⊢
      clear hy
      go_wp2
      go_ret
      exact ⟨ret_int (by rw [← HE.out]; omega), hb3⟩
theorem depthOf_all : ∀ n, DepthT n
  | 0 => depthT_step (fun k h => by omega)
  | n + 1 => depthT_step (fun k h => Nat.succ.inj h ▸ depthOf_all n)
/-- spec.CompareTerms, at arguments of at most this depth -/
def CmpT (n : Nat) : Prop := ∀ (t u : TermM) (va vb : Value) (w : World) (lo lo' : Nat), HasTs n lo w va t.args → HasTs n lo' w vb u.args →
  Calls Tryz.prog 106 #[.agg #[.int .i64 t.op, .string (bstr t.name), .int .i64 t.sort, va], .agg #[.int .i64 u.op, .string (bstr u.name), .int .i64 u.sort, vb]] w fun e w' => e = .returned (.int .i64 (cmp t u)) ∧ Below w.heap.size w w'
set_option maxRecDepth 50000 in
set_option maxHeartbeats 8000000 in
theorem cmpT_step {n : Nat} (hS : ∀ k, n = k + 1 → CmpT k) : CmpT n := by
  intro t u va vb w lo lo' ha hb
  obtain ⟨N, hN⟩ : ∃ N, N = t.args.length := ⟨_, rfl⟩
  obtain ⟨M, hM⟩ : ∃ M, M = u.args.length := ⟨_, rfl⟩
  obtain ⟨A, ca, rfl, ha⟩ := HasR.shape ha hN.symm
  obtain ⟨B, cb, rfl, hb⟩ := HasR.shape hb hM.symm
  have hNm := ha.len.2.1
  have hMm := hb.len.2.1
  have hlt := binOp_string_lss 9 (bstr t.name) (bstr u.name)
  rw [less_bstr] at hlt
  have hne := bstr_eq (a := t.name) (b := u.name)
  have HC : Hid (cmp t u = if cmpI t.op u.op ≠ 0 then cmpI t.op u.op else if cmpB t.name u.name ≠ 0 then cmpB t.name u.name else if cmpI t.sort u.sort ≠ 0 then cmpI t.sort u.sort else cmpL t.args u.args) := Lib.hid (by cases t; exact cmp_mk _ _ _ _ u)
  have HA := Lib.hid ha
  have HB := Lib.hid hb
  have HS := Lib.hid hS
  obtain ⟨c, hc⟩ : ∃ c, c = cmp t u := ⟨_, rfl⟩
  obtain ⟨L, hL⟩ : ∃ L, L = t.args := ⟨_, rfl⟩
  obtain ⟨K, hK⟩ : ∃ L, L = u.args := ⟨_, rfl⟩
  rw [← hc] at HC ⊢
  obtain ⟨to, hto⟩ : ∃ q, q = t.op := ⟨_, rfl⟩
  obtain ⟨tn, htn⟩ : ∃ q, q = t.name := ⟨_, rfl⟩
  obtain ⟨ts, hts⟩ : ∃ q, q = t.sort := ⟨_, rfl⟩
  obtain ⟨uo, huo⟩ : ∃ q, q = u.op := ⟨_, rfl⟩
  obtain ⟨un, hun⟩ : ∃ q, q = u.name := ⟨_, rfl⟩
  obtain ⟨us, hus⟩ : ∃ q, q = u.sort := ⟨_, rfl⟩
  rw [← hL] at HA hN HC
  rw [← hK] at HB hM HC
  rw [← hto, ← huo, ← htn, ← hun, ← hts, ← hus] at HC
  rw [← htn, ← hun] at hlt hne
  rw [← hto, ← huo, ← htn, ← hun, ← hts, ← hus]
  have HN := Lib.hid hN
  have HM := Lib.hid hM
  clear ha hb hS hc hL hK hto htn hts huo hun hus hN hM
  by_cases h1 : to = uo
  case neg =>
    by_cases h2 : to < uo
    · have HR : Hid (c = -1) := Lib.hid (by rw [HC.out, show cmpI to uo = -1 by (unfold cmpI; rw [if_neg h1, if_pos h2])]; simp)
      go_enter Tryz.func106, Tryz.ntmps106
      go_wp2
      go_ret
      exact ⟨ret_int HR.out.symm, ((Below.refl _ _).alloc (Nat.le_refl _) _).alloc (by simp) _⟩
    · have HR : Hid (c = 1) := Lib.hid (by rw [HC.out, show cmpI to uo = 1 by (unfold cmpI; rw [if_neg h1, if_neg h2])]; simp)
      go_enter Tryz.func106, Tryz.ntmps106
      go_wp2
      go_ret
      exact ⟨ret_int HR.out.symm, ((Below.refl _ _).alloc (Nat.le_refl _) _).alloc (by simp) _⟩
  subst h1
  have HC1 : Hid (c = if cmpB tn un ≠ 0 then cmpB tn un else if cmpI ts us ≠ 0 then cmpI ts us else cmpL L K) := Lib.hid (by rw [HC.out, show cmpI to to = 0 by (unfold cmpI; rw [if_pos rfl])]; simp)
  clear HC
  by_cases h1 : tn = un
  case neg =>
    rw [decide_eq_false h1] at hne
    cases hl : lessB tn un with
    | true =>
      have HR : Hid (c = -1) := Lib.hid (by rw [HC1.out, show cmpB tn un = -1 by (unfold cmpB; rw [if_neg h1, if_pos hl])]; simp)
      rw [hl] at hlt
      go_enter Tryz.func106, Tryz.ntmps106
      go_wp2
      go_ret
      exact ⟨ret_int HR.out.symm, ((Below.refl _ _).alloc (Nat.le_refl _) _).alloc (by simp) _⟩
    | false =>
      have HR : Hid (c = 1) := Lib.hid (by rw [HC1.out, show cmpB tn un = 1 by (unfold cmpB; rw [if_neg h1, if_neg (by rw [hl]; simp)])]; simp)
      rw [hl] at hlt
      go_enter Tryz.func106, Tryz.ntmps106
      go_wp2
      go_ret
      exact ⟨ret_int HR.out.symm, ((Below.refl _ _).alloc (Nat.le_refl _) _).alloc (by simp) _⟩
  subst h1
  have HC2 : Hid (c = if cmpI ts us ≠ 0 then cmpI ts us else cmpL L K) := Lib.hid (by rw [HC1.out, show cmpB tn tn = 0 by (unfold cmpB; rw [if_pos rfl])]; simp)
  clear HC1 hlt hne
  by_cases h1 : ts = us
  case neg =>
    by_cases h2 : ts < us
    · have HR : Hid (c = -1) := Lib.hid (by rw [HC2.out, show cmpI ts us = -1 by (unfold cmpI; rw [if_neg h1, if_pos h2])]; simp)
      go_enter Tryz.func106, Tryz.ntmps106
      go_wp2
      go_ret
      exact ⟨ret_int HR.out.symm, ((Below.refl _ _).alloc (Nat.le_refl _) _).alloc (by simp) _⟩
    · have HR : Hid (c = 1) := Lib.hid (by rw [HC2.out, show cmpI ts us = 1 by (unfold cmpI; rw [if_neg h1, if_neg h2])]; simp)
      go_enter Tryz.func106, Tryz.ntmps106
      go_wp2
      go_ret
      exact ⟨ret_int HR.out.symm, ((Below.refl _ _).alloc (Nat.le_refl _) _).alloc (by simp) _⟩
  subst h1
  have HC3 : Hid (c = cmpL L K) := Lib.hid (by rw [HC2.out, show cmpI ts ts = 0 by (unfold cmpI; rw [if_pos rfl])]; simp)
  clear HC2
  go_enter Tryz.func106, Tryz.ntmps106
  go_wp2
  generalize hW : (w.alloc (.cells #[.int .i64 to, .string (bstr tn), .int .i64 ts, .slice A N ca] 44)).alloc (.cells #[.int .i64 to, .string (bstr tn), .int .i64 ts, .slice B M cb] 44) = W
  have hb0 : Below w.heap.size w W := by rw [← hW]; exact ((Below.refl _ _).alloc (Nat.le_refl _) _).alloc (by simp) _
  have hlt0 : w.heap.size < W.heap.size := by rw [← hW]; simp; omega
  have hlt1 : w.heap.size + 1 < W.heap.size := by rw [← hW]; simp
  have hbox : W.cell? ⟨w.heap.size, 3, none⟩ = some (.slice A N ca) := by rw [← hW]; simp
  have hbox2 : W.cell? ⟨w.heap.size + 1, 3, none⟩ = some (.slice B M cb) := by rw [← hW]; simp
  clear hW
  go_loopw [5] (fun i wr => ∃ (k : Nat), k ≤ N ∧ k ≤ M ∧ i = .int .i64 k ∧ Hid (∀ j, j < k → cmp (L.getD j default) (K.getD j default) = 0) ∧ Below W.heap.size W wr) (fun i _ => N - (intOf i).toNat)
  case atStart => exact ⟨0, Nat.zero_le _, Nat.zero_le _, rfl, Lib.hid (fun j hj => by omega), Below.refl _ _⟩
  case round =>
    obtain ⟨k, hkN, hkM, rfl, HZ, hbel⟩ := hrel
    have hbx : wr.cell? ⟨w.heap.size, 3, none⟩ = some (.slice A N ca) := (hbel.cell (p := ⟨w.heap.size, 3, none⟩) hlt0).trans hbox
    have hbx2 : wr.cell? ⟨w.heap.size + 1, 3, none⟩ = some (.slice B M cb) := (hbel.cell (p := ⟨w.heap.size + 1, 3, none⟩) hlt1).trans hbox2
    have hbw : Below w.heap.size w wr := hb0.trans (hbel.mono (Nat.le_of_lt hlt0))
    by_cases hA : k < N
    case neg =>
      have hda : decide (k < N) = false := decide_eq_false hA
      have hda2 : decide ((k : Int) < (N : Int)) = false := decide_eq_false (by omega)
      have HE : Hid (c = cmpI (N : Int) (M : Int)) := Lib.hid (by
        rw [HC3.out, HN.out, HM.out]
        exact cmpL_end (fun j h1 h2 => HZ.out j (by have := HN.out; omega)))
      by_cases h2 : N < M
      · have HR : Hid (c = -1) := Lib.hid (by rw [HE.out]; unfold cmpI; rw [if_neg (by omega), if_pos (by omega)])
        go_wp2
        go_ret
        exact ⟨ret_int HR.out.symm, hbw⟩
      · by_cases h3 : M < N
        · exact absurd h3 (by omega)
        · have HR : Hid (c = 0) := Lib.hid (by rw [HE.out]; unfold cmpI; rw [if_pos (by omega)])
          go_wp2
          go_ret
          exact ⟨ret_int HR.out.symm, hbw⟩
    have hda : decide (k < N) = true := decide_eq_true hA
    have hda2 : decide ((k : Int) < (N : Int)) = true := decide_eq_true (by omega)
    by_cases hB : k < M
    case neg =>
      have hdb : decide (k < M) = false := decide_eq_false hB
      have hdb2 : decide ((k : Int) < (M : Int)) = false := decide_eq_false (by omega)
      have HE : Hid (c = cmpI (N : Int) (M : Int)) := Lib.hid (by
        rw [HC3.out, HN.out, HM.out]
        exact cmpL_end (fun j h1 h2 => HZ.out j (by have := HM.out; omega)))
      have h2 : ¬ N < M := by omega
      have h3 : M < N := by omega
      have HR : Hid (c = 1) := Lib.hid (by rw [HE.out]; unfold cmpI; rw [if_neg (by omega), if_neg (by omega)])
      go_wp2
      go_ret
      exact ⟨ret_int HR.out.symm, hbw⟩
    have hdb : decide (k < M) = true := decide_eq_true hB
    have hdb2 : decide ((k : Int) < (M : Int)) = true := decide_eq_true (by omega)
    obtain ⟨ka, ga, oa, A2, a2, hna, rfl, _, hga, ha0, ha1, ha2, ha3, hha, _⟩ := term_at HA.out hA
    obtain ⟨kb, gb, ob, B2, b2, hnb, rfl, _, hgb, hb0', hb1, hb2, hb3, hhb, _⟩ := term_at HB.out hB
    obtain rfl : ka = kb := by omega
    have hga2 : ga < wr.heap.size := Nat.lt_of_lt_of_le hga hbw.size
    have hgb2 : gb < wr.heap.size := Nat.lt_of_lt_of_le hgb hbw.size
    have hx0 : w.heap.size < wr.heap.size := Nat.lt_of_lt_of_le hlt0 hbel.size
    have hx1 : w.heap.size + 1 < wr.heap.size := Nat.lt_of_lt_of_le hlt1 hbel.size
    have hh1 := hha.below (Nat.le_refl _) hbw
    have hh2 := hhb.below (Nat.le_refl _) hbw
    obtain ⟨x, hx⟩ : ∃ d, d = L.getD k default := ⟨_, rfl⟩
    obtain ⟨y, hy⟩ : ∃ d, d = K.getD k default := ⟨_, rfl⟩
    rw [← hx] at ha0 ha1 ha2 ha3 hh1
    rw [← hy] at hb0' hb1 hb2 hb3 hh2
    obtain ⟨r, hr⟩ : ∃ r, r = cmp x y := ⟨_, rfl⟩
    have HCC := Lib.hid (fun W' (hW' : Below wr.heap.size wr W') => HS.out ka hna x y _ _ W' _ _ (hh1.below (Nat.le_refl _) hW') (hh2.below (Nat.le_refl _) hW'))
    rw [← hr] at HCC
    have HRX : Hid (r = cmp (L.getD k default) (K.getD k default)) := Lib.hid (by rw [hr, hx, hy])
    obtain ⟨m, hm⟩ : ∃ m, m = x.args.length := ⟨_, rfl⟩
    obtain ⟨m', hm'⟩ : ∃ m, m = y.args.length := ⟨_, rfl⟩
    rw [← hm] at ha3 HCC
    rw [← hm'] at hb3 HCC
    have hk1 : (0 : Int) ≤ (k : Int) := by omega
    have hk2 : (k : Int) < (N : Int) := by omega
    have hk3 : (k : Int) < (M : Int) := by omega
    have qa : ∀ o, w.cell? ⟨ga, o, none⟩ = wr.cell? ⟨ga, o, none⟩ := fun o => (hbw.cell (p := ⟨ga, o, none⟩) hga).symm
    have qb : ∀ o, w.cell? ⟨gb, o, none⟩ = wr.cell? ⟨gb, o, none⟩ := fun o => (hbw.cell (p := ⟨gb, o, none⟩) hgb).symm
    rw [qa] at ha0 ha1 ha2 ha3
    rw [qb] at hb0' hb1 hb2 hb3
    have r0 : ∀ t : BoxC (Below wr.heap.size wr), t.W.cell? ⟨ga, oa + k * 4, none⟩ = some (.int .i64 x.op) := fun t => t.cell ha0 hga2
    have r1 : ∀ t : BoxC (Below wr.heap.size wr), t.W.cell? ⟨ga, oa + k * 4 + 1, none⟩ = some (.string (bstr x.name)) := fun t => t.cell ha1 hga2
    have r2 : ∀ t : BoxC (Below wr.heap.size wr), t.W.cell? ⟨ga, oa + k * 4 + 2, none⟩ = some (.int .i64 x.sort) := fun t => t.cell ha2 hga2
    have r3 : ∀ t : BoxC (Below wr.heap.size wr), t.W.cell? ⟨ga, oa + k * 4 + 3, none⟩ = some (.slice A2 m a2) := fun t => t.cell ha3 hga2
    have s0 : ∀ t : BoxC (Below wr.heap.size wr), t.W.cell? ⟨gb, ob + k * 4, none⟩ = some (.int .i64 y.op) := fun t => t.cell hb0' hgb2
    have s1 : ∀ t : BoxC (Below wr.heap.size wr), t.W.cell? ⟨gb, ob + k * 4 + 1, none⟩ = some (.string (bstr y.name)) := fun t => t.cell hb1 hgb2
    have s2 : ∀ t : BoxC (Below wr.heap.size wr), t.W.cell? ⟨gb, ob + k * 4 + 2, none⟩ = some (.int .i64 y.sort) := fun t => t.cell hb2 hgb2
    have s3 : ∀ t : BoxC (Below wr.heap.size wr), t.W.cell? ⟨gb, ob + k * 4 + 3, none⟩ = some (.slice B2 m' b2) := fun t => t.cell hb3 hgb2
    have x0 : ∀ t : BoxC (Below wr.heap.size wr), t.W.cell? ⟨w.heap.size, 3, none⟩ = some (.slice (some ⟨ga, oa, none⟩) N ca) := fun t => t.cell hbx hx0
    have x1 : ∀ t : BoxC (Below wr.heap.size wr), t.W.cell? ⟨w.heap.size + 1, 3, none⟩ = some (.slice (some ⟨gb, ob, none⟩) M cb) := fun t => t.cell hbx2 hx1
    clear hha hhb hh1 hh2 hx hy hr hm hm' qa qb hna hnb ha0 ha1 ha2 ha3 hb0' hb1 hb2 hb3
    go_wp2
    refine region_boxC (C := Below wr.heap.size wr) (by kernel_rfl) (by kernel_rfl) (Below.refl _ _).drew ?_
    have nb : Nonempty (BoxC (Below wr.heap.size wr)) := ⟨⟨_, Below.refl _ _⟩⟩
    repeat (go_big_quiet_step ((go_at_call 106; exact (HCC.out _ (BoxC.h _)).mono (fun _ _ h => ⟨h.1, BoxC.step _ h.2⟩))))
    refine wpQuiet_nil ?_
    rintro w5 ⟨t5, rfl⟩
    have hh := t5.h
    clear r0 r1 r2 r3 s0 s1 s2 s3 x0 x1
    by_cases hr0 : r = 0
    · subst hr0
      go_wp2
      go_roundw
      case rel => exact ⟨k + 1, by omega, by omega, by go_num, Lib.hid (fun j hj => by
        by_cases e : j = k
        · subst e; exact HRX.out.symm
        · exact HZ.out j (by omega)), hbel.trans (hh.mono hbel.size)⟩
      case measure => simp [intOf]; omega
    · have HR : Hid (c = r) := Lib.hid (by
        rw [HC3.out, HRX.out]
        exact cmpL_hit (by have := HN.out; omega) (by have := HM.out; omega) HZ.out (by rw [← HRX.out]; exact hr0))
      go_wp2
      go_ret
      exact ⟨ret_int HR.out.symm, hbw.trans (hh.mono hbw.size)⟩
theorem cmpOf_all : ∀ n, CmpT n
  | 0 => cmpT_step (fun k h => by omega)
  | n + 1 => cmpT_step (fun k h => Nat.succ.inj h ▸ cmpOf_all n)
theorem scmp_any {n m : Nat} (t u : TermM) (va vb : Value) (w : World) {lo lo' : Nat} (ha : HasTs n lo w va t.args) (hb : HasTs m lo' w vb u.args) :
    Calls Tryz.prog 106 #[.agg #[.int .i64 t.op, .string (bstr t.name), .int .i64 t.sort, va], .agg #[.int .i64 u.op, .string (bstr u.name), .int .i64 u.sort, vb]] w fun e w' => e = .returned (.int .i64 (cmp t u)) ∧ Below w.heap.size w w' :=
  cmpOf_all (max n m) t u va vb w lo lo' (ha.up (Nat.le_max_left _ _)) (hb.up (Nat.le_max_right _ _))
end Go.Proofs.YtjejdcehlckfhaaGreat.termv
/-
  THE MODEL's LIMITS: l6Left, l6Small.
-/
namespace Go.Proofs.YtjejdcehlckfhaaGreat.formlf
open Go.ChangeShapes Go.WideShapes Go.ChangeAt Go.RowKit
open mem dec rowl trm trmv terml termb termt termu termv termx

/-- what is left of x when m nodes are taken from it -/
def leftZ (x : Int) (m : Nat) : Int := if (m : Int) ≤ x then x - m else -1
theorem leftZ_add {x : Int} {a b : Nat} (h : 0 ≤ leftZ x a) : leftZ (leftZ x a) b = leftZ x (a + b) := by
  unfold leftZ at h ⊢
  split at h
  · rename_i h1
    rw [if_pos h1]
    split <;> split <;> omega
  · omega
theorem leftZ_neg {x : Int} {a b : Nat} (h : ¬ 0 ≤ leftZ x a) (hab : a ≤ b) : leftZ x a = leftZ x b := by
  unfold leftZ at h ⊢
  split at h
  · omega
  · rename_i h1
    rw [if_neg h1, if_neg (by omega)]
theorem leftZ_lo (x : Int) (m : Nat) : -1 ≤ leftZ x m := by unfold leftZ; split <;> omega
theorem leftZ_hi {x : Int} (hx : 0 ≤ x) (m : Nat) : leftZ x m ≤ x := by unfold leftZ; split <;> omega
theorem leftZ_pos {x : Int} (m : Nat) : 0 ≤ leftZ x m ↔ (m : Int) ≤ x := by unfold leftZ; split <;> omega
theorem sizes_take_le (L : List TermM) (k : Nat) : sizes (L.take k) ≤ sizes L := by
  induction L generalizing k with
  | nil => simp
  | cons a l ih =>
    cases k with
    | zero => exact Nat.zero_le _
    | succ k =>
      have := ih k
      show size a + sizes (l.take k) ≤ size a + sizes l
      omega
/-- spec.l6Left, at arguments of at most this depth -/
def LeftT (n : Nat) : Prop := ∀ (op : Int) (l : List UInt8) (s : Int) (L : List TermM) (v : Value) (w : World) (lo : Nat) (x : Int), HasTs n lo w v L → 0 ≤ x → x ≤ 60 →
  Calls Tryz.prog 127 #[.agg #[.int .i64 op, .string (bstr l), .int .i64 s, v], .int .i64 x] w fun e w' => e = .returned (.int .i64 (leftZ x (1 + sizes L))) ∧ Below w.heap.size w w'
theorem leftT_step {n : Nat} (hS : ∀ k, n = k + 1 → LeftT k) : LeftT n := by
  intro op l s L v w lo x h hx0 hx60
  obtain ⟨N, hN⟩ : ∃ N, N = L.length := ⟨_, rfl⟩
  obtain ⟨A, c, rfl, h⟩ := HasR.shape h hN.symm
  have hNl := h.len.2.1
  have HN := Lib.hid hN
  have HH := Lib.hid h
  have HS := Lib.hid hS
  have hw : IntKind.i64.wrap (x - 1) = x - 1 := IntWalk.i64_in _ (by omega)
  clear h hN hS
  go_enter Tryz.func127, Tryz.ntmps127
  go_wp2
  generalize hW : w.alloc (.cells #[.int .i64 op, .string (bstr l), .int .i64 s, .slice A N c] 44) = W
  have hb0 : Below w.heap.size w W := by rw [← hW]; exact (Below.refl _ _).alloc (Nat.le_refl _) _
  have hlt0 : w.heap.size < W.heap.size := by rw [← hW]; simp
  have hbox : W.cell? ⟨w.heap.size, 3, none⟩ = some (.slice A N c) := by rw [← hW]; simp
  clear hW hw
  go_loopw [1, 5] (fun v i wr => ∃ (k : Nat) (z : Int), k ≤ N ∧ i = .int .i64 k ∧ v = .int .i64 z ∧ Hid (z = leftZ x (1 + sizes (L.take k))) ∧ -1 ≤ z ∧ z ≤ 60 ∧ Below W.heap.size W wr) (fun _ i _ => N - (intOf i).toNat)
  case atStart => exact ⟨0, x - 1, Nat.zero_le _, rfl, rfl, Lib.hid (by show x - 1 = leftZ x (1 + 0); unfold leftZ; split <;> omega), by omega, by omega, Below.refl _ _⟩
  case round =>
    obtain ⟨k, z, hk, rfl, rfl, HZ, hz1, hz2, hbel⟩ := hrel
    have hbx : wr.cell? ⟨w.heap.size, 3, none⟩ = some (.slice A N c) := (hbel.cell (p := ⟨w.heap.size, 3, none⟩) hlt0).trans hbox
    by_cases hlt : k < N
    · by_cases hz : 0 ≤ z
      · have d1 : decide ((k : Int) < (N : Int)) = true := decide_eq_true (by omega)
        have d2 : decide ((0 : Int) ≤ z) = true := decide_eq_true hz
        have hlt2 : k < L.length := by have := HN.out; omega
        have hbw : Below w.heap.size w wr := hb0.trans (hbel.mono (Nat.le_of_lt hlt0))
        obtain ⟨k', g, o, A2, c2, hnk, rfl, _, hg, hc0, hc1, hc2, hc3, hh, _⟩ := term_at HH.out hlt
        rw [← hbw.cell (p := ⟨g, o + k * 4, none⟩) hg] at hc0
        rw [← hbw.cell (p := ⟨g, o + k * 4 + 1, none⟩) hg] at hc1
        rw [← hbw.cell (p := ⟨g, o + k * 4 + 2, none⟩) hg] at hc2
        rw [← hbw.cell (p := ⟨g, o + k * 4 + 3, none⟩) hg] at hc3
        have hh2 := hh.below (Nat.le_refl _) hbw
        have hst : sizes (L.take (k + 1)) = sizes (L.take k) + size (L.getD k default) := sizes_take hlt2
        obtain ⟨t, ht⟩ : ∃ t, t = L.getD k default := ⟨_, rfl⟩
        rw [← ht] at hc0 hc1 hc2 hc3 hh2 hst
        have hsz2 : size t = 1 + sizes t.args := size_eq t
        have HT := Lib.hid (HS.out k' hnk t.op t.name t.sort t.args _ wr lo z hh2 hz hz2)
        rw [← hsz2] at HT
        obtain ⟨q, hq⟩ : ∃ q, q = t.args.length := ⟨_, rfl⟩
        rw [← hq] at hc3 HT
        obtain ⟨z', hz'⟩ : ∃ z', z' = leftZ z (size t) := ⟨_, rfl⟩
        rw [← hz'] at HT
        have hz3 : -1 ≤ z' := by rw [hz']; exact leftZ_lo _ _
        have hz4 : z' ≤ 60 := by rw [hz']; have := leftZ_hi hz (size t); omega
        have HST : Hid (z' = leftZ x (1 + sizes (L.take (k + 1)))) := Lib.hid (by
          rw [hz', hst]
          have h1 := HZ.out
          rw [h1, leftZ_add (by rw [← h1]; exact hz), Nat.add_assoc])
        have i1 : (0 : Int) ≤ (k : Int) := by omega
        have i2 : (k : Int) < (N : Int) := by omega
        clear hh hh2 hq ht hz' hsz2 hst
        go_wp2_with fail
        refine HT.out.mono ?_
        rintro e w2 ⟨rfl, hb2⟩
        have hbw2 := hbel.trans (hb2.mono hbel.size)
        clear hb2
        go_wp2
        go_roundw
        case rel => exact ⟨k + 1, z', by omega, by go_num, rfl, HST, hz3, hz4, hbw2⟩
        case measure => simp [intOf]; omega
      · have d1 : decide ((k : Int) < (N : Int)) = true := decide_eq_true (by omega)
        have d2 : decide ((0 : Int) ≤ z) = false := decide_eq_false hz
        have HE : Hid (z = leftZ x (1 + sizes L)) := Lib.hid (by
          have h1 := HZ.out
          have := sizes_take_le L k
          rw [h1, leftZ_neg (b := 1 + sizes L) (by rw [← h1]; exact hz) (by omega)])
        have hb3 : Below w.heap.size w wr := hb0.trans (hbel.mono (Nat.le_of_lt hlt0))
        go_wp2
        go_ret
        exact ⟨ret_int (by rw [← HE.out]), hb3⟩
    · have d1 : decide ((k : Int) < (N : Int)) = false := decide_eq_false (by omega)
      have HE : Hid (z = leftZ x (1 + sizes L)) := Lib.hid (by
        have h1 := HZ.out
        rw [List.take_of_length_le (by have := HN.out; omega)] at h1
        exact h1)
      have hb3 : Below w.heap.size w wr := hb0.trans (hbel.mono (Nat.le_of_lt hlt0))
      go_wp2
      go_ret
      exact ⟨ret_int (by rw [← HE.out]), hb3⟩
theorem left_all : ∀ n, LeftT n
  | 0 => leftT_step (fun k h => by omega)
  | n + 1 => leftT_step (fun k h => Nat.succ.inj h ▸ left_all n)
/-- spec.l6Small -/
theorem small_any {n lo : Nat} (t : TermM) (v : Value) (w : World) (h : HasTs n lo w v t.args) (hs : sizes t.args ≤ 1048576) :
    Calls Tryz.prog 75 #[aggT t v] w fun e w' => ∃ r, e = .returned (.bool r) ∧ (r = true ↔ size t ≤ 60 ∧ depth t ≤ 20) ∧ Below w.heap.size w w' := by
  obtain ⟨A, c, rfl, h⟩ := HasR.shape h rfl
  have hb0 : Below w.heap.size w (w.alloc (.cells #[.int .i64 t.op, .string (bstr t.name), .int .i64 t.sort, .slice A t.args.length c] 44)) := (Below.refl _ _).alloc (Nat.le_refl _) _
  have HB0 := Lib.hid hb0
  have HL := Lib.hid (left_all n t.op t.name t.sort t.args _ _ lo 60 (h.below (Nat.le_refl _) hb0) (by omega) (by omega))
  have HD : Hid (∀ W, Below w.heap.size w W → Calls Tryz.prog 128 #[.agg #[.int .i64 t.op, .string (bstr t.name), .int .i64 t.sort, .slice A t.args.length c]] W fun e w' => e = .returned (.int .i64 ((depth t : Nat) : Int)) ∧ Below W.heap.size W w') := Lib.hid (fun W hW => by
    rw [depth_eq]
    exact depthOf_all n t.op t.name t.sort t.args _ W lo (h.below (Nat.le_refl _) hW) hs)
  have hp : 0 ≤ leftZ 60 (1 + sizes t.args) ↔ size t ≤ 60 := by rw [leftZ_pos, size_eq]; omega
  have hlo := leftZ_lo 60 (1 + sizes t.args)
  obtain ⟨z, hz⟩ : ∃ z, z = leftZ 60 (1 + sizes t.args) := ⟨_, rfl⟩
  rw [← hz] at HL hp hlo
  obtain ⟨q, hq⟩ : ∃ q, q = t.args.length := ⟨_, rfl⟩
  obtain ⟨to, hto⟩ : ∃ q, q = t.op := ⟨_, rfl⟩
  obtain ⟨tn, htn⟩ : ∃ q, q = t.name := ⟨_, rfl⟩
  obtain ⟨ts, hts⟩ : ∃ q, q = t.sort := ⟨_, rfl⟩
  obtain ⟨d, hd⟩ : ∃ q, q = depth t := ⟨_, rfl⟩
  unfold aggT
  rw [← hq, ← hto, ← htn, ← hts] at HL HB0 HD ⊢
  rw [← hd] at HD ⊢
  obtain ⟨sz, hsz⟩ : ∃ q, q = size t := ⟨_, rfl⟩
  rw [← hsz] at hp ⊢
  have HP := Lib.hid hp
  clear h hs hb0 hz hq hto htn hts hd hsz
  by_cases h0 : 0 ≤ z
  · have d1 : decide ((0 : Int) ≤ z) = true := decide_eq_true h0
    by_cases h1 : d ≤ 20
    · have d2 : decide ((d : Int) ≤ 20) = true := decide_eq_true (by omega)
      have HF : Hid (true = true ↔ sz ≤ 60 ∧ d ≤ 20) := Lib.hid ⟨fun _ => ⟨hp.1 h0, h1⟩, fun _ => rfl⟩
      clear hp h1
      go_enter Tryz.func75, Tryz.ntmps75
      go_wp2_with fail
      refine HL.out.mono ?_
      rintro e w1 ⟨rfl, hb1⟩
      have HB1 := Lib.hid (HB0.out.trans (hb1.mono HB0.out.size))
      have x0 := cell_of_row _ _ 0 _ _ _ ((hb1.block w.heap.size (by simp)).trans (heap_at _ _ _ rfl))
      have x1 := cell_of_row _ _ 1 _ _ _ ((hb1.block w.heap.size (by simp)).trans (heap_at _ _ _ rfl))
      have x2 := cell_of_row _ _ 2 _ _ _ ((hb1.block w.heap.size (by simp)).trans (heap_at _ _ _ rfl))
      have x3 := cell_of_row _ _ 3 _ _ _ ((hb1.block w.heap.size (by simp)).trans (heap_at _ _ _ rfl))
      clear hb1
      go_wp2_with fail
      refine (HD.out _ HB1.out).mono ?_
      rintro e w2 ⟨rfl, hb2⟩
      have HB2 := Lib.hid (HB1.out.trans (hb2.mono HB1.out.size))
      clear hb2 x0 x1 x2 x3
      go_wp2
      go_ret
      exact ⟨true, rfl, ⟨fun _ => HF.out.1 (by first | rfl | trivial), fun _ => rfl⟩, HB2.out⟩
    · have d2 : decide ((d : Int) ≤ 20) = false := decide_eq_false (by omega)
      have HF : Hid (false = true ↔ sz ≤ 60 ∧ d ≤ 20) := Lib.hid ⟨(fun e => by cases e), fun e => absurd e.2 h1⟩
      clear hp h1
      go_enter Tryz.func75, Tryz.ntmps75
      go_wp2_with fail
      refine HL.out.mono ?_
      rintro e w1 ⟨rfl, hb1⟩
      have HB1 := Lib.hid (HB0.out.trans (hb1.mono HB0.out.size))
      have x0 := cell_of_row _ _ 0 _ _ _ ((hb1.block w.heap.size (by simp)).trans (heap_at _ _ _ rfl))
      have x1 := cell_of_row _ _ 1 _ _ _ ((hb1.block w.heap.size (by simp)).trans (heap_at _ _ _ rfl))
      have x2 := cell_of_row _ _ 2 _ _ _ ((hb1.block w.heap.size (by simp)).trans (heap_at _ _ _ rfl))
      have x3 := cell_of_row _ _ 3 _ _ _ ((hb1.block w.heap.size (by simp)).trans (heap_at _ _ _ rfl))
      clear hb1
      go_wp2_with fail
      refine (HD.out _ HB1.out).mono ?_
      rintro e w2 ⟨rfl, hb2⟩
      have HB2 := Lib.hid (HB1.out.trans (hb2.mono HB1.out.size))
      clear hb2 x0 x1 x2 x3
      go_wp2
      go_ret
      exact ⟨false, rfl, HF.out, HB2.out⟩
  · have d1 : decide ((0 : Int) ≤ z) = false := decide_eq_false h0
    have HF : Hid (false = true ↔ sz ≤ 60 ∧ d ≤ 20) := Lib.hid ⟨(fun e => by cases e), fun e => absurd (hp.2 e.1) h0⟩
    clear hp HD
    go_enter Tryz.func75, Tryz.ntmps75
    go_wp2_with fail
    refine HL.out.mono ?_
    rintro e w1 ⟨rfl, hb1⟩
    have HB1 := Lib.hid (HB0.out.trans (hb1.mono HB0.out.size))
    clear hb1
    go_wp2
    go_ret
    exact ⟨false, rfl, HF.out, HB1.out⟩
end Go.Proofs.YtjejdcehlckfhaaGreat.formlf
