/-
  THE PROGRAM'S COMPARISON OF BINDINGS AND OF SUBSTITUTIONS: compareVars, compareBindings, slices.CompareFunc, CompareSubstitutions.
-/
import Derived.Test.YtiilamngcoegiaaBndl
import Derived.Deep.LoopGhost
namespace Go.Proofs.Ytiilamngcoegiaa.bndc
open Go.ChangeShapes Go.WideShapes Go.ChangeAt Go.RowKit
open mem dec rowl trm trmv terml termb termt termw termx bndl

theorem eight {w : World} {x : Nat} {v0 v1 v2 v3 v4 v5 v6 v7 : Value} {t : TypeId} (h : w.heap[x]? = some (.cells #[v0, v1, v2, v3, v4, v5, v6, v7] t (0, 0))) : (w.cell? ⟨x, 0, none⟩ = some v0 ∧ w.cell? ⟨x, 1, none⟩ = some v1 ∧ w.cell? ⟨x, 2, none⟩ = some v2 ∧ w.cell? ⟨x, 3, none⟩ = some v3) ∧ w.cell? ⟨x, 4, none⟩ = some v4 ∧ w.cell? ⟨x, 5, none⟩ = some v5 ∧ w.cell? ⟨x, 6, none⟩ = some v6 ∧ w.cell? ⟨x, 7, none⟩ = some v7 :=
  ⟨⟨cell_of_row w x 0 _ _ _ h, cell_of_row w x 1 _ _ _ h, cell_of_row w x 2 _ _ _ h, cell_of_row w x 3 _ _ _ h⟩, cell_of_row w x 4 _ _ _ h, cell_of_row w x 5 _ _ _ h, cell_of_row w x 6 _ _ _ h, cell_of_row w x 7 _ _ _ h⟩
set_option maxRecDepth 20000 in
set_option maxHeartbeats 2000000 in
/-- impl.compareVars -/
theorem vars_any {n : Nat} (a b : BindM) (va vb : Value) (U : Option Addr) (m c : Nat) (U' : Option Addr) (m' c' : Nat) (w : World) {lo lo' : Nat} (ha : HasTs n lo w va a.v.args) (hb : HasTs n lo' w vb b.v.args) (hsz : sizes a.v.args ≤ 2097152) :
    Calls Try.prog 55 #[aggB a va (.slice U m c), aggB b vb (.slice U' m' c')] w fun e w' => e = .returned (.int .i64 (cmp a.v b.v)) ∧ GB w.heap.size w w' := by
  obtain ⟨A, ca, rfl, _⟩ := HasR.shape ha rfl
  obtain ⟨B, cb, rfl, _⟩ := HasR.shape hb rfl
  have HC := Lib.hid (fun W (hW : GB w.heap.size w W) => compare_any a.v b.v _ _ W (ha.below (Nat.le_refl _) hW.below) (hb.below (Nat.le_refl _) hW.below) hsz)
  unfold aggB
  unfold aggT at HC
  obtain ⟨z, hz⟩ : ∃ z, z = cmp a.v b.v := ⟨_, rfl⟩
  obtain ⟨ka, hka⟩ : ∃ k, k = a.v.args.length := ⟨_, rfl⟩
  obtain ⟨kb, hkb⟩ : ∃ k, k = b.v.args.length := ⟨_, rfl⟩
  rw [← hz] at HC ⊢
  rw [← hka, ← hkb] at HC ⊢
  clear ha hb hsz hz hka hkb
  go_enter Try.func55, Try.ntmps55
  go_wp2_with fail
  refine (HC.out _ (((GB.refl _ _).alloc (Nat.le_refl _) _).alloc (by simp) _)).mono ?_
  rintro e w1 ⟨rfl, hb1⟩
  have hgb : GB w.heap.size w w1 := ((((GB.refl _ _).alloc (Nat.le_refl _) _).alloc (by simp) _)).trans (hb1.mono (by simp; omega))
  clear hb1
  go_wp2
  go_ret
  exact ⟨rfl, hgb⟩
set_option maxRecDepth 20000 in
set_option maxHeartbeats 2000000 in
/-- impl.compareBindings -/
theorem binds_any {n : Nat} (a b : BindM) (va vb ua ub : Value) (w : World) {lo lo' : Nat} (ha : HasTs n lo w va a.v.args) (hb : HasTs n lo' w vb b.v.args) (ha2 : HasTs n lo w ua a.t.args) (hb2 : HasTs n lo' w ub b.t.args) (hsz : sizes a.v.args ≤ 2097152) (hsz2 : sizes a.t.args ≤ 2097152) :
    Calls Try.prog 45 #[aggB a va ua, aggB b vb ub] w fun e w' => e = .returned (.int .i64 (cmpQ a b)) ∧ GB w.heap.size w w' := by
  obtain ⟨A, ca, rfl, _⟩ := HasR.shape ha rfl
  obtain ⟨B, cb, rfl, _⟩ := HasR.shape hb rfl
  obtain ⟨A2, ca2, rfl, _⟩ := HasR.shape ha2 rfl
  obtain ⟨B2, cb2, rfl, _⟩ := HasR.shape hb2 rfl
  have HV := Lib.hid (fun W (hW : GB w.heap.size w W) => vars_any a b _ _ A2 a.t.args.length ca2 B2 b.t.args.length cb2 W (ha.below (Nat.le_refl _) hW.below) (hb.below (Nat.le_refl _) hW.below) hsz)
  have HC := Lib.hid (fun W (hW : GB w.heap.size w W) => compare_any a.t b.t _ _ W (ha2.below (Nat.le_refl _) hW.below) (hb2.below (Nat.le_refl _) hW.below) hsz2)
  obtain ⟨W, hW⟩ : ∃ W, W = (w.alloc (.cells #[.int .i64 a.v.op, .string (bstr a.v.name), .int .i64 a.v.sort, .slice A a.v.args.length ca, .int .i64 a.t.op, .string (bstr a.t.name), .int .i64 a.t.sort, .slice A2 a.t.args.length ca2] 70)).alloc (.cells #[.int .i64 b.v.op, .string (bstr b.v.name), .int .i64 b.v.sort, .slice B b.v.args.length cb, .int .i64 b.t.op, .string (bstr b.t.name), .int .i64 b.t.sort, .slice B2 b.t.args.length cb2] 70) := ⟨_, rfl⟩
  have hgW : GB w.heap.size w W := by rw [hW]; exact ((GB.refl _ _).alloc (Nat.le_refl _) _).alloc (by simp) _
  have hzW : W.heap.size = w.heap.size + 2 := by rw [hW]; simp
  have hx1 := eight (show W.heap[w.heap.size]? = some (.cells #[.int .i64 a.v.op, .string (bstr a.v.name), .int .i64 a.v.sort, .slice A a.v.args.length ca, .int .i64 a.t.op, .string (bstr a.t.name), .int .i64 a.t.sort, .slice A2 a.t.args.length ca2] 70 (0, 0)) by rw [hW]; exact (Below.heap_alloc _ _ _ (by simp)).trans (heap_at _ _ _ rfl))
  have hx2 := eight (show W.heap[w.heap.size + 1]? = some (.cells #[.int .i64 b.v.op, .string (bstr b.v.name), .int .i64 b.v.sort, .slice B b.v.args.length cb, .int .i64 b.t.op, .string (bstr b.t.name), .int .i64 b.t.sort, .slice B2 b.t.args.length cb2] 70 (0, 0)) by rw [hW]; exact heap_at _ _ _ (by simp))
  obtain ⟨r, hr⟩ : ∃ r, r = cmp a.v b.v := ⟨_, rfl⟩
  obtain ⟨z, hz⟩ : ∃ z, z = cmp a.t b.t := ⟨_, rfl⟩
  obtain ⟨q, hq⟩ : ∃ q, q = cmpQ a b := ⟨_, rfl⟩
  have HQ : Hid (q = if r ≠ 0 then r else z) := Lib.hid (by rw [hq, hr, hz]; rfl)
  have HX1 := Lib.hid hx1
  have HX2 := Lib.hid hx2
  have HGW := Lib.hid hgW
  obtain ⟨⟨x0, x1, x2, x3⟩, x4, x5, x6, x7⟩ := hx1
  obtain ⟨⟨y0, y1, y2, y3⟩, y4, y5, y6, y7⟩ := hx2
  have HZ := Lib.hid hzW
  rw [← hr] at HV
  rw [← hz] at HC
  rw [← hq]
  unfold aggB at HV ⊢
  unfold aggT at HC
  clear ha hb ha2 hb2 hsz hsz2 hr hz hq hgW hzW
  go_enter Try.func45, Try.ntmps45
  go_wp2_with fail
  rw [← hW]
  clear hW
  refine (HV.out W HGW.out).mono ?_
  rintro e w1 ⟨rfl, hb1⟩
  have hgb : GB w.heap.size w w1 := HGW.out.trans (hb1.mono HGW.out.below.size)
  have k : ∀ {g o : Nat} {v : Value}, W.cell? ⟨g, o, none⟩ = some v → w1.cell? ⟨g, o, none⟩ = some v := fun {g o v} h => (hb1.below.cell (p := ⟨g, o, none⟩) (World.block_lt_of_cell? W _ h)).trans h
  obtain ⟨_, a4, a5, a6, a7⟩ := HX1.out
  obtain ⟨_, b4, b5, b6, b7⟩ := HX2.out
  have d4 := k a4
  have d5 := k a5
  have d6 := k a6
  have d7 := k a7
  have e4 := k b4
  have e5 := k b5
  have e6 := k b6
  have e7 := k b7
  clear k hb1 a4 a5 a6 a7 b4 b5 b6 b7 x0 x1 x2 x3 x4 x5 x6 x7 y0 y1 y2 y3 y4 y5 y6 y7
  by_cases h0 : r = 0
  · subst h0
    have HE : Hid (q = z) := Lib.hid (by rw [HQ.out]; simp)
    go_wp2_with fail
    refine (HC.out _ hgb).mono ?_
    rintro e w2 ⟨rfl, hb2⟩
    have hgb2 := hgb.trans (hb2.mono hgb.below.size)
    clear hb2
    go_wp2
    go_ret
    exact ⟨ret_int HE.out.symm, hgb2⟩
  · have HE : Hid (q = r) := Lib.hid (by rw [HQ.out, if_pos h0])
    go_wp2
    go_ret
    exact ⟨ret_int HE.out.symm, hgb⟩
set_option maxRecDepth 20000 in
set_option maxHeartbeats 2000000 in
/-- slices.CompareFunc with compareBindings -/
theorem cfunc_any {n : Nat} (L M : List BindM) (va vb : Value) (w : World) {lo lo' : Nat} (ha : HasBs n lo w va L) (hb : HasBs n lo' w vb M) (hsz : bsz L ≤ 1048576) :
    Calls Try.prog 44 #[va, vb, .func (.func 45) #[] #[]] w fun e w' => e = .returned (.int .i64 (cmpQs L M)) ∧ GB w.heap.size w w' := by
  obtain ⟨N, hN⟩ : ∃ N, N = L.length := ⟨_, rfl⟩
  obtain ⟨m, hm⟩ : ∃ m, m = M.length := ⟨_, rfl⟩
  obtain ⟨A, ca, rfl, ha⟩ := HasR.shape ha hN.symm
  obtain ⟨B, cb, rfl, hb⟩ := HasR.shape hb hm.symm
  have hla := ha.len.2.1
  have hlb := hb.len.2.1
  have HA := Lib.hid ha
  have HB := Lib.hid hb
  have HN := Lib.hid hN
  have HM := Lib.hid hm
  have HS := Lib.hid hsz
  obtain ⟨z, hz⟩ : ∃ z, z = cmpQs L M := ⟨_, rfl⟩
  have HZ := Lib.hid hz
  rw [← hz]
  clear ha hb hN hm hsz hz
  go_enter Try.func44, Try.ntmps44
  go_wp2
  go_loopw [13] (fun v13 wr => ∃ k : Nat, v13 = .int .i64 k ∧ k ≤ N ∧ k ≤ m ∧ Hid (∀ i, i < k → cmpQ (L.getD i default) (M.getD i default) = 0) ∧ Hid (GB w.heap.size w wr)) (fun i _ => N - (intOf i).toNat)
  case atStart => exact ⟨0, rfl, Nat.zero_le _, Nat.zero_le _, Lib.hid (fun i hi => by omega), Lib.hid (GB.refl _ _)⟩
  case round =>
    obtain ⟨k, rfl, hk, hkm, HQ, HG⟩ := hrel
    by_cases hlt : k < N
    · obtain ⟨ga, oa, A1, a1, A2, a2, rfl, hga, hca, h1, h2, hv, ht⟩ := bind_at HA.out hlt
      have hca' := hca.below HG.out.below
      by_cases hlm : k < m
      · obtain ⟨gb, ob, B1, b1, B2, b2, rfl, hgb, hcb, h3, h4, _, _⟩ := bind_at HB.out hlm
        have hcb' := hcb.below HG.out.below
        have hsx := bsz_at (L := L) (j := k) (by have := HN.out; omega)
        have hs1 : sizes (L.getD k default).v.args ≤ 2097152 := by have := HS.out; omega
        have hs2 : sizes (L.getD k default).t.args ≤ 2097152 := by have := HS.out; omega
        obtain ⟨x, hx⟩ : ∃ b, b = L.getD k default := ⟨_, rfl⟩
        obtain ⟨y, hy⟩ : ∃ b, b = M.getD k default := ⟨_, rfl⟩
        obtain ⟨q, hq⟩ : ∃ q, q = cmpQ x y := ⟨_, rfl⟩
        have HQK : Hid (q = cmpQ (L.getD k default) (M.getD k default)) := Lib.hid (by rw [hq, hx, hy])
        rw [← hx] at hca' h1 h2 hs1 hs2
        rw [← hy] at hcb' h3 h4
        unfold Cells8 at hca' hcb'
        obtain ⟨⟨x0, x1, x2, x3⟩, x4, x5, x6, x7⟩ := hca'
        obtain ⟨⟨y0, y1, y2, y3⟩, y4, y5, y6, y7⟩ := hcb'
        obtain ⟨V, hV⟩ : ∃ V, V = (wr.alloc (.cells #[.int .i64 x.v.op, .string (bstr x.v.name), .int .i64 x.v.sort, .slice A1 x.v.args.length a1, .int .i64 x.t.op, .string (bstr x.t.name), .int .i64 x.t.sort, .slice A2 x.t.args.length a2] 70)).alloc (.cells #[.int .i64 y.v.op, .string (bstr y.v.name), .int .i64 y.v.sort, .slice B1 y.v.args.length b1, .int .i64 y.t.op, .string (bstr y.t.name), .int .i64 y.t.sort, .slice B2 y.t.args.length b2] 70) := ⟨_, rfl⟩
        have hgV : GB wr.heap.size wr V := by rw [hV]; exact ((GB.refl _ _).alloc (Nat.le_refl _) _).alloc (by simp) _
        have hgw := HG.out.trans (hgV.mono HG.out.below.size)
        have HC := Lib.hid (binds_any x y _ _ _ _ V (h1.below (Nat.le_refl _) hgw.below) (h3.below (Nat.le_refl _) hgw.below) (h2.below (Nat.le_refl _) hgw.below) (h4.below (Nat.le_refl _) hgw.below) hs1 hs2)
        have HGW := Lib.hid hgw
        unfold aggB at HC
        rw [← hq] at HC
        obtain ⟨xo1, hxo1⟩ : ∃ q, q = x.v.op := ⟨_, rfl⟩
        rw [← hxo1] at HC hV x0
        obtain ⟨xn1, hxn1⟩ : ∃ q, q = x.v.name := ⟨_, rfl⟩
        rw [← hxn1] at HC hV x1
        obtain ⟨xs1, hxs1⟩ : ∃ q, q = x.v.sort := ⟨_, rfl⟩
        rw [← hxs1] at HC hV x2
        obtain ⟨xk1, hxk1⟩ : ∃ q, q = x.v.args.length := ⟨_, rfl⟩
        rw [← hxk1] at HC hV x3
        obtain ⟨xo2, hxo2⟩ : ∃ q, q = x.t.op := ⟨_, rfl⟩
        rw [← hxo2] at HC hV x4
        obtain ⟨xn2, hxn2⟩ : ∃ q, q = x.t.name := ⟨_, rfl⟩
        rw [← hxn2] at HC hV x5
        obtain ⟨xs2, hxs2⟩ : ∃ q, q = x.t.sort := ⟨_, rfl⟩
        rw [← hxs2] at HC hV x6
        obtain ⟨xk2, hxk2⟩ : ∃ q, q = x.t.args.length := ⟨_, rfl⟩
        rw [← hxk2] at HC hV x7
        clear hxo1 hxn1 hxs1 hxk1 hxo2 hxn2 hxs2 hxk2
        obtain ⟨yo1, hyo1⟩ : ∃ q, q = y.v.op := ⟨_, rfl⟩
        rw [← hyo1] at HC hV y0
        obtain ⟨yn1, hyn1⟩ : ∃ q, q = y.v.name := ⟨_, rfl⟩
        rw [← hyn1] at HC hV y1
        obtain ⟨ys1, hys1⟩ : ∃ q, q = y.v.sort := ⟨_, rfl⟩
        rw [← hys1] at HC hV y2
        obtain ⟨yk1, hyk1⟩ : ∃ q, q = y.v.args.length := ⟨_, rfl⟩
        rw [← hyk1] at HC hV y3
        obtain ⟨yo2, hyo2⟩ : ∃ q, q = y.t.op := ⟨_, rfl⟩
        rw [← hyo2] at HC hV y4
        obtain ⟨yn2, hyn2⟩ : ∃ q, q = y.t.name := ⟨_, rfl⟩
        rw [← hyn2] at HC hV y5
        obtain ⟨ys2, hys2⟩ : ∃ q, q = y.t.sort := ⟨_, rfl⟩
        rw [← hys2] at HC hV y6
        obtain ⟨yk2, hyk2⟩ : ∃ q, q = y.t.args.length := ⟨_, rfl⟩
        rw [← hyk2] at HC hV y7
        clear hyo1 hyn1 hys1 hyk1 hyo2 hyn2 hys2 hyk2
        have kY : ∀ {g o : Nat} {v : Value}, wr.cell? ⟨g, o, none⟩ = some v → ∀ O, (wr.alloc O).cell? ⟨g, o, none⟩ = some v := fun {g o v} h O => (((Below.refl _ _).alloc (Nat.le_refl _) O).cell (p := ⟨g, o, none⟩) (World.block_lt_of_cell? wr _ h)).trans h
        have j0 := kY y0
        have j1 := kY y1
        have j2 := kY y2
        have j3 := kY y3
        have j4 := kY y4
        have j5 := kY y5
        have j6 := kY y6
        have j7 := kY y7
        clear hca hcb h1 h2 h3 h4 hs1 hs2 hsx hx hy hq hgV hgw hv ht kY y0 y1 y2 y3 y4 y5 y6 y7
        go_wp2_with fail
        rw [← hV]
        clear hV x0 x1 x2 x3 x4 x5 x6 x7 j0 j1 j2 j3 j4 j5 j6 j7
        refine HC.out.mono ?_
        rintro e w2 ⟨rfl, hb2⟩
        have HG2 := Lib.hid (HGW.out.trans (hb2.mono HGW.out.below.size))
        clear hb2 HC
        by_cases h0 : q = 0
        · subst h0
          have HQ2 : Hid (∀ i, i < k + 1 → cmpQ (L.getD i default) (M.getD i default) = 0) := Lib.hid (fun i hi => by
            by_cases e : i = k
            · subst e; exact HQK.out.symm
            · exact HQ.out i (by omega))
          go_wp2
          go_roundw
          case rel => exact ⟨k + 1, by go_num, by omega, by omega, HQ2, HG2⟩
          case measure => simp [intOf]; omega
        · have HE : Hid (z = q) := Lib.hid (by rw [HZ.out, HQK.out]; exact cmpQs_step (by have := HN.out; omega) (by have := HM.out; omega) HQ.out (by rw [← HQK.out]; exact h0))
          go_wp2
          go_ret
          exact ⟨ret_int HE.out.symm, HG2.out⟩
      · have HE : Hid (z = 1) := Lib.hid (by
          rw [HZ.out, cmpQs_end (fun i hi hj => HQ.out i (by have := HM.out; omega)), if_neg (by have := HN.out; have := HM.out; omega), if_pos (by have := HN.out; have := HM.out; omega)])
        obtain ⟨⟨x0, x1, x2, x3⟩, x4, x5, x6, x7⟩ := hca'
        have hg2 : ∀ ob, GB w.heap.size w (wr.alloc ob) := fun ob => HG.out.alloc HG.out.below.size ob
        have HG2 := Lib.hid hg2
        generalize L.getD k default = x at x0 x1 x2 x3 x4 x5 x6 x7
        clear hca h1 h2 hv ht hg2
        go_wp2
        go_ret
        exact ⟨ret_int HE.out.symm, HG2.out _⟩
    · obtain rfl : k = N := by omega
      by_cases hlm : k < m
      · have HE : Hid (z = -1) := Lib.hid (by
          rw [HZ.out, cmpQs_end (fun i hi hj => HQ.out i (by have := HN.out; omega)), if_pos (by have := HN.out; have := HM.out; omega)])
        go_wp2
        go_ret
        exact ⟨ret_int HE.out.symm, HG.out⟩
      · have HE : Hid (z = 0) := Lib.hid (by
          rw [HZ.out, cmpQs_end (fun i hi hj => HQ.out i (by have := HN.out; omega)), if_neg (by have := HN.out; have := HM.out; omega), if_neg (by have := HN.out; have := HM.out; omega)])
        go_wp2
        go_ret
        exact ⟨ret_int HE.out.symm, HG.out⟩
/-- impl.CompareSubstitutions -/
theorem iCompareS_any {n : Nat} (L M : List BindM) (va vb : Value) (w : World) {lo lo' : Nat} (ha : HasBs n lo w va L) (hb : HasBs n lo' w vb M) (hsz : bsz L ≤ 1048576) :
    Calls Try.prog 30 #[va, vb] w fun e w' => e = .returned (.int .i64 (cmpQs L M)) ∧ GB w.heap.size w w' := by
  have HC := Lib.hid (cfunc_any L M va vb w ha hb hsz)
  obtain ⟨z, hz⟩ : ∃ z, z = cmpQs L M := ⟨_, rfl⟩
  rw [← hz] at HC ⊢
  obtain ⟨A, ca, rfl, _⟩ := HasR.shape ha rfl
  obtain ⟨B, cb, rfl, _⟩ := HasR.shape hb rfl
  obtain ⟨k, hk⟩ : ∃ k, k = L.length := ⟨_, rfl⟩
  obtain ⟨m, hm⟩ : ∃ m, m = M.length := ⟨_, rfl⟩
  rw [← hk, ← hm] at HC ⊢
  clear ha hb hsz hz hk hm
  go_enter Try.func30, Try.ntmps30
  go_wp2_with fail
  refine HC.out.mono ?_
  rintro e w1 ⟨rfl, hb1⟩
  clear HC
  go_wp2
  go_ret
  exact ⟨rfl, hb1⟩
end Go.Proofs.Ytiilamngcoegiaa.bndc
