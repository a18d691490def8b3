/-
  CONTRACTS OF THE LAWS' OWN FUNCTIONS ON BINDINGS: szBinding, toBinding, eqBinding (at equal ones), and those of their rows.
-/
import Derived.Test.YtiilamngcoegiaaBndl
import Derived.Test.YtiilamngcoegiaaTermu
import Derived.Deep.RegionHeld3
namespace Go.Proofs.Ytiilamngcoegiaa.bndt
open Go.ChangeShapes Go.WideShapes Go.ChangeAt Go.RowKit
open mem rowl trm trmv terml termb termt termu termx bndl

theorem eight {w : World} {x : Nat} {v0 v1 v2 v3 v4 v5 v6 v7 : Value} {t : TypeId} (h : w.heap[x]? = some (.cells #[v0, v1, v2, v3, v4, v5, v6, v7] t (0, 0))) : (w.cell? ⟨x, 0, none⟩ = some v0 ∧ w.cell? ⟨x, 1, none⟩ = some v1 ∧ w.cell? ⟨x, 2, none⟩ = some v2 ∧ w.cell? ⟨x, 3, none⟩ = some v3) ∧ w.cell? ⟨x, 4, none⟩ = some v4 ∧ w.cell? ⟨x, 5, none⟩ = some v5 ∧ w.cell? ⟨x, 6, none⟩ = some v6 ∧ w.cell? ⟨x, 7, none⟩ = some v7 :=
  ⟨⟨cell_of_row w x 0 _ _ _ h, cell_of_row w x 1 _ _ _ h, cell_of_row w x 2 _ _ _ h, cell_of_row w x 3 _ _ _ h⟩, cell_of_row w x 4 _ _ _ h, cell_of_row w x 5 _ _ _ h, cell_of_row w x 6 _ _ _ h, cell_of_row w x 7 _ _ _ h⟩
theorem set_heap {w : World} {x : Nat} {cs : Array Value} {t : TypeId} {f : Nat × Nat} (h : w.heap[x]? = some (.cells cs t f)) (i : Nat) (u : Value) : (w.setCell ⟨x, i, none⟩ u).heap[x]? = some (.cells (cs.setIfInBounds i u) t f) := by
  simp [World.setCell, Array.getElem?_modify, h]
set_option maxRecDepth 20000 in
/-- laws.szBinding -/
theorem szB_any {n : Nat} (b : BindM) (va vb : Value) (w : World) {lo : Nat} (ha : HasTs n lo w va b.v.args) (hb : HasTs n lo w vb b.t.args) (hv : Bnd b.v) (ht : Bnd b.t) (m : Int) (hm : 0 ≤ m) (hm2 : m ≤ 1048576) :
    Calls Try.prog 39 #[aggB b va vb, .int .i64 m] w fun e w' => ∃ r : Int, e = .returned (.int .i64 r) ∧ (0 ≤ r → r + sizes b.v.args + sizes b.t.args ≤ m) ∧ -1 ≤ r ∧ r ≤ 1048576 ∧ Below w.heap.size w w' := by
  have HA := Lib.hid (fun W (hW : Below w.heap.size w W) m h1 h2 => szTerm_any b.v.op b.v.name b.v.sort b.v.args va W hv.1 (ha.below (Nat.le_refl _) hW) m h1 h2)
  have HB := Lib.hid (fun W (hW : Below w.heap.size w W) m h1 h2 => szTerm_any b.t.op b.t.name b.t.sort b.t.args vb W ht.1 (hb.below (Nat.le_refl _) hW) m h1 h2)
  obtain ⟨A, ca, rfl, _⟩ := HasR.shape ha rfl
  obtain ⟨B, cb, rfl, _⟩ := HasR.shape hb rfl
  unfold aggB
  obtain ⟨o1, ho1⟩ : ∃ q, q = b.v.op := ⟨_, rfl⟩
  obtain ⟨n1, hn1⟩ : ∃ q, q = b.v.name := ⟨_, rfl⟩
  obtain ⟨s1, hs1⟩ : ∃ q, q = b.v.sort := ⟨_, rfl⟩
  obtain ⟨k1, hk1⟩ : ∃ q, q = b.v.args.length := ⟨_, rfl⟩
  obtain ⟨o2, ho2⟩ : ∃ q, q = b.t.op := ⟨_, rfl⟩
  obtain ⟨n2, hn2⟩ : ∃ q, q = b.t.name := ⟨_, rfl⟩
  obtain ⟨s2, hs2⟩ : ∃ q, q = b.t.sort := ⟨_, rfl⟩
  obtain ⟨k2, hk2⟩ : ∃ q, q = b.t.args.length := ⟨_, rfl⟩
  rw [← ho1, ← hn1, ← hs1, ← hk1] at HA ⊢
  rw [← ho2, ← hn2, ← hs2, ← hk2] at HB ⊢
  obtain ⟨W, hW⟩ : ∃ W, W = w.alloc (.cells #[.int .i64 o1, .string (bstr n1), .int .i64 s1, .slice A k1 ca, .int .i64 o2, .string (bstr n2), .int .i64 s2, .slice B k2 cb] 67) := ⟨_, rfl⟩
  have hbW : Below w.heap.size w W := by rw [hW]; exact (Below.refl _ _).alloc (Nat.le_refl _) _
  have hx := eight (show W.heap[w.heap.size]? = some _ by rw [hW]; exact heap_at _ _ _ rfl)
  have HX := Lib.hid hx
  have HBW := Lib.hid hbW
  obtain ⟨⟨x0, x1, x2, x3⟩, x4, x5, x6, x7⟩ := hx
  clear ha hb hv ht ho1 hn1 hs1 hk1 ho2 hn2 hs2 hk2 hbW
  go_enter Try.func39, Try.ntmps39
  go_wp2_with fail
  rw [← hW]
  clear hW
  refine (HA.out W HBW.out m hm hm2).mono ?_
  rintro e w1 ⟨r, rfl, hr, hr1, hr2, hb1⟩
  have hbw := HBW.out.trans (hb1.mono HBW.out.size)
  have k : ∀ {g o : Nat} {v : Value}, W.cell? ⟨g, o, none⟩ = some v → w1.cell? ⟨g, o, none⟩ = some v := fun {g o v} h => (hb1.cell (p := ⟨g, o, none⟩) (World.block_lt_of_cell? W _ h)).trans h
  obtain ⟨_, a4, a5, a6, a7⟩ := HX.out
  have d4 := k a4
  have d5 := k a5
  have d6 := k a6
  have d7 := k a7
  have HR := Lib.hid hr
  clear k hb1 a4 a5 a6 a7 x0 x1 x2 x3 x4 x5 x6 x7 hr
  by_cases hneg : r < 0
  · go_wp2
    go_ret
    exact ⟨-1, rfl, fun h => by omega, by omega, by omega, hbw⟩
  · go_wp2_with fail
    refine (HB.out w1 hbw r (by omega) hr2).mono ?_
    rintro e w2 ⟨r2, rfl, hs, hs1, hs2, hb2⟩
    have hbw2 := hbw.trans (hb2.mono hbw.size)
    have HS := Lib.hid hs
    clear hb2 hs
    by_cases hneg2 : r2 < 0
    · go_wp2
      go_ret
      exact ⟨-1, rfl, fun h => by omega, by omega, by omega, hbw2⟩
    · go_wp2
      go_ret
      exact ⟨r2, rfl, fun h => by have h1 := HS.out h; have h2 := HR.out (by omega); omega, hs1, hs2, hbw2⟩
set_option maxRecDepth 20000 in
set_option maxHeartbeats 1000000 in
/-- laws.szBindingS -/
theorem szBS_any {n : Nat} (L : List BindM) (v : Value) (w : World) {lo : Nat} (h : HasBs n lo w v L) (m : Int) (hm : 0 ≤ m) (hm2 : m ≤ 1048576) :
    Calls Try.prog 22 #[v, .int .i64 m] w fun e w' => ∃ r : Int, e = .returned (.int .i64 r) ∧ (0 ≤ r → r + bsz L ≤ m) ∧ -1 ≤ r ∧ r ≤ 1048576 ∧ Below w.heap.size w w' := by
  obtain ⟨N, hN⟩ : ∃ N, N = L.length := ⟨_, rfl⟩
  obtain ⟨A, c, rfl, h⟩ := HasR.shape h hN.symm
  have hl := h.len.2.1
  have HH := Lib.hid h
  have HN := Lib.hid hN
  clear h hN
  by_cases hneg : m - (N : Int) < 0
  · go_enter Try.func22, Try.ntmps22
    go_wp2
    go_ret
    exact ⟨-1, rfl, fun h => by omega, by omega, by omega, Below.refl _ _⟩
  · have hnm : (N : Int) ≤ m := by omega
    go_enter Try.func22, Try.ntmps22
    go_wp2
    go_loopw [1, 5] (fun v i wr => ∃ (k : Nat) (r : Int), k ≤ N ∧ i = .int .i64 k ∧ v = .int .i64 r ∧ 0 ≤ r ∧ r ≤ 1048576 ∧ Hid (r + (N - k) + bsz (L.take k) ≤ m) ∧ Below w.heap.size w wr) (fun _ i _ => N - (intOf i).toNat)
    case atStart => exact ⟨0, _, Nat.zero_le _, rfl, rfl, by omega, by omega, Lib.hid (by have : bsz (L.take 0) = 0 := rfl; omega), Below.refl _ _⟩
    case round =>
      obtain ⟨k, r, hk, rfl, rfl, hr0, hr1, HSM, hbel⟩ := hrel
      by_cases hlt : k < N
      · obtain ⟨g, o, A1, c1, A2, c2, rfl, hg, hc, h1, h2, hv, ht⟩ := bind_at HH.out hlt
        obtain ⟨⟨x0, x1, x2, x3⟩, x4, x5, x6, x7⟩ := hc.below hbel
        have h1' := h1.below (Nat.le_refl _) hbel
        have h2' := h2.below (Nat.le_refl _) hbel
        have HST : Hid (bsz (L.take (k + 1)) = bsz (L.take k) + (1 + sizes (L.getD k default).v.args + sizes (L.getD k default).t.args)) := Lib.hid (bsz_take (by have := HN.out; omega))
        obtain ⟨b, hbd⟩ : ∃ b, b = L.getD k default := ⟨_, rfl⟩
        rw [← hbd] at x0 x1 x2 x3 x4 x5 x6 x7 h1' h2' hv ht HST
        have HZ := Lib.hid (szB_any b _ _ wr h1' h2' hv ht)
        obtain ⟨k1, hk1⟩ : ∃ q, q = b.v.args.length := ⟨_, rfl⟩
        obtain ⟨k2, hk2⟩ : ∃ q, q = b.t.args.length := ⟨_, rfl⟩
        unfold aggB at HZ
        rw [← hk1] at x3 HZ
        rw [← hk2] at x7 HZ
        clear hc h1 h2 h1' h2' hv ht hbd hk1 hk2
        go_wp2_with fail
        refine (HZ.out r hr0 hr1).mono ?_
        rintro e w2 ⟨r2, rfl, hs, hs1, hs2, hb2⟩
        have HS2 := Lib.hid hs
        clear hs x0 x1 x2 x3 x4 x5 x6 x7
        by_cases hneg2 : r2 < 0
        · go_wp2
          go_ret
          exact ⟨-1, rfl, fun h => by omega, by omega, by omega, hbel.trans (hb2.mono hbel.size)⟩
        · go_wp2
          go_roundw
          case rel => exact ⟨k + 1, r2, by omega, by go_num, rfl, by omega, hs2, Lib.hid (by have h1 := HS2.out (by omega); have h2 := HSM.out; have h3 := HST.out; omega), hbel.trans (hb2.mono hbel.size)⟩
          case measure => simp [intOf]; omega
      · obtain rfl : k = N := by omega
        have HE : Hid (r + bsz L ≤ m) := Lib.hid (by have h2 := HSM.out; rw [HN.out, List.take_length] at h2; omega)
        go_wp2
        go_ret
        exact ⟨r, rfl, fun _ => HE.out, by omega, hr1, hbel⟩
set_option maxRecDepth 20000 in
set_option maxHeartbeats 1000000 in
/-- laws.toBinding -/
theorem toB_any {n : Nat} (b : BindM) (va vb : Value) (w : World) {lo : Nat} (ha : HasTs n lo w va b.v.args) (hb : HasTs n lo w vb b.t.args) (hs1 : sizes b.v.args ≤ 1048576) (hs2 : sizes b.t.args ≤ 1048576) :
    Calls Try.prog 41 #[aggB b va vb] w fun e w' => ∃ va' vb', e = .returned (aggB b va' vb') ∧ HasTs (n + 1) w.heap.size w' va' b.v.args ∧ HasTs (n + 1) w.heap.size w' vb' b.t.args ∧ Below w.heap.size w w' := by
  have HA := Lib.hid (fun W (hW : Below w.heap.size w W) => toTerm_any b.v.op b.v.name b.v.sort b.v.args hs1 va W (ha.below (Nat.le_refl _) hW))
  have HB := Lib.hid (fun W (hW : Below w.heap.size w W) => toTerm_any b.t.op b.t.name b.t.sort b.t.args hs2 vb W (hb.below (Nat.le_refl _) hW))
  obtain ⟨A, ca, rfl, _⟩ := HasR.shape ha rfl
  obtain ⟨B, cb, rfl, _⟩ := HasR.shape hb rfl
  have HOS1 : Hid (∀ {W lo v S}, OT 40 (n + 1) lo W v b.v.args S → ∃ A c, v = .slice A b.v.args.length c) := Lib.hid (fun h => OT.shape h)
  have HOS2 : Hid (∀ {W lo v S}, OT 40 (n + 1) lo W v b.t.args S → ∃ A c, v = .slice A b.t.args.length c) := Lib.hid (fun h => OT.shape h)
  unfold aggB
  obtain ⟨o1, ho1⟩ : ∃ q, q = b.v.op := ⟨_, rfl⟩
  obtain ⟨n1, hn1⟩ : ∃ q, q = b.v.name := ⟨_, rfl⟩
  obtain ⟨s1, hs1'⟩ : ∃ q, q = b.v.sort := ⟨_, rfl⟩
  obtain ⟨k1, hk1⟩ : ∃ q, q = b.v.args.length := ⟨_, rfl⟩
  obtain ⟨o2, ho2⟩ : ∃ q, q = b.t.op := ⟨_, rfl⟩
  obtain ⟨n2, hn2⟩ : ∃ q, q = b.t.name := ⟨_, rfl⟩
  obtain ⟨s2, hs2'⟩ : ∃ q, q = b.t.sort := ⟨_, rfl⟩
  obtain ⟨k2, hk2⟩ : ∃ q, q = b.t.args.length := ⟨_, rfl⟩
  rw [← hk1] at HOS1
  rw [← hk2] at HOS2
  rw [← ho1, ← hn1, ← hs1', ← hk1] at HA ⊢
  rw [← ho2, ← hn2, ← hs2', ← hk2] at HB ⊢
  obtain ⟨W, hW⟩ : ∃ W, W = ((w.alloc (.cells #[.int .i64 o1, .string (bstr n1), .int .i64 s1, .slice A k1 ca, .int .i64 o2, .string (bstr n2), .int .i64 s2, .slice B k2 cb] 67)).alloc (.cells #[.int .i64 0, .string { data := #[] }, .int .i64 0, .slice none 0 0, .int .i64 0, .string { data := #[] }, .int .i64 0, .slice none 0 0] 70)).alloc (.cells #[.int .i64 0, .string { data := #[] }, .int .i64 0, .slice none 0 0, .int .i64 0, .string { data := #[] }, .int .i64 0, .slice none 0 0] 70) := ⟨_, rfl⟩
  have hbW : Below w.heap.size w W := by rw [hW]; exact (((Below.refl _ _).alloc (Nat.le_refl _) _).alloc (by simp) _).alloc (by simp; omega) _
  have hzW : W.heap.size = w.heap.size + 3 := by rw [hW]; simp
  have hp0 : W.heap[w.heap.size]? = some (.cells #[.int .i64 o1, .string (bstr n1), .int .i64 s1, .slice A k1 ca, .int .i64 o2, .string (bstr n2), .int .i64 s2, .slice B k2 cb] 67 (0, 0)) := by rw [hW]; exact (Below.heap_alloc _ _ _ (by simp; omega)).trans ((Below.heap_alloc _ _ _ (by simp)).trans (heap_at _ _ _ rfl))
  have hr0 : W.heap[w.heap.size + 1]? = some (.cells #[.int .i64 0, .string { data := #[] }, .int .i64 0, .slice none 0 0, .int .i64 0, .string { data := #[] }, .int .i64 0, .slice none 0 0] 70 (0, 0)) := by rw [hW]; exact (Below.heap_alloc _ _ _ (by simp)).trans (heap_at _ _ _ (by simp))
  have hq0 : W.heap[w.heap.size + 2]? = some (.cells #[.int .i64 0, .string { data := #[] }, .int .i64 0, .slice none 0 0, .int .i64 0, .string { data := #[] }, .int .i64 0, .slice none 0 0] 70 (0, 0)) := by rw [hW]; exact heap_at _ _ _ (by simp)
  obtain ⟨⟨x0, x1, x2, x3⟩, x4, x5, x6, x7⟩ := eight hp0
  have HP0 := Lib.hid hp0
  have HR0 := Lib.hid hr0
  have HQ0 := Lib.hid hq0
  have HBW := Lib.hid hbW
  have HZ := Lib.hid hzW
  have hbs : (bstr [] : ByteArray) = { data := #[] } := rfl
  clear ha hb hs1 hs2 ho1 hn1 hs1' hk1 ho2 hn2 hs2' hk2 hbW hzW hp0 hr0 hq0
  go_enter Try.func41, Try.ntmps41
  go_wp2_with fail
  rw [← hW]
  clear hW
  refine (HA.out W HBW.out).mono ?_
  rintro e w1 ⟨v1, S1, rfl, ht1, hb1⟩
  obtain ⟨A1, c1, rfl⟩ := HOS1.out ht1
  have HT1 := Lib.hid ht1.has
  have HB1 := Lib.hid hb1
  have hp1 := (hb1.block _ (by rw [HZ.out]; omega)).trans HP0.out
  have hr1 := (hb1.block _ (by rw [HZ.out]; omega)).trans HR0.out
  have hq1 := (hb1.block _ (by rw [HZ.out]; omega)).trans HQ0.out
  obtain ⟨_, y4, y5, y6, y7⟩ := eight hp1
  obtain ⟨⟨q0, q1, q2, q3⟩, _⟩ := eight hq1
  have f0 := frozen_of_row w1 _ 0 _ _ hq1
  have f1 := frozen_of_row w1 _ 1 _ _ hq1
  have f2 := frozen_of_row w1 _ 2 _ _ hq1
  have f3 := frozen_of_row w1 _ 3 _ _ hq1
  have hz1 : w.heap.size + 3 ≤ w1.heap.size := by have := hb1.size; have := HZ.out; omega
  obtain ⟨w2, hw2⟩ : ∃ w2, w2 = (((w1.setCell ⟨w.heap.size + 2, 0, none⟩ (.int .i64 o1)).setCell ⟨w.heap.size + 2, 1, none⟩ (.string (bstr n1))).setCell ⟨w.heap.size + 2, 2, none⟩ (.int .i64 s1)).setCell ⟨w.heap.size + 2, 3, none⟩ (.slice A1 k1 c1) := ⟨_, rfl⟩
  have hc2 : Chg [w.heap.size + 2] w1 w2 := by rw [hw2]; exact ((((Chg.refl _ w1).trans (Chg.set (by simp) _)).trans (Chg.set (by simp) _)).trans (Chg.set (by simp) _)).trans (Chg.set (by simp) _)
  have hq2 : w2.heap[w.heap.size + 2]? = some (.cells #[.int .i64 o1, .string (bstr n1), .int .i64 s1, .slice A1 k1 c1, .int .i64 0, .string { data := #[] }, .int .i64 0, .slice none 0 0] 70 (0, 0)) := by
    rw [hw2]; exact set_heap (set_heap (set_heap (set_heap hq1 0 _) 1 _) 2 _) 3 _
  have hbw2 : Below w.heap.size w w2 := (HBW.out.trans (hb1.mono HBW.out.size)).trans (hc2.below (by omega) (by simp))
  have HC2 := Lib.hid hc2
  have HP2 := Lib.hid ((hc2.block (w.heap.size) (by omega) (by simp)).trans hp1)
  have HR2 := Lib.hid ((hc2.block (w.heap.size + 1) (by omega) (by simp)).trans hr1)
  have HQ2 := Lib.hid hq2
  have HBW2 := Lib.hid hbw2
  clear ht1 hb1 hp1 hr1 hq1 hc2 hq2 hbw2 x0 x1 x2 x3 x4 x5 x6 x7
  go_wp2_with fail
  rw [← hw2]
  clear hw2 y4 y5 y6 y7 q0 q1 q2 q3 f0 f1 f2 f3
  refine (HB.out w2 HBW2.out).mono ?_
  rintro e w3 ⟨v2, S2, rfl, ht2, hb2⟩
  obtain ⟨A2, c2, rfl⟩ := HOS2.out ht2
  have hz2 : w.heap.size + 3 ≤ w2.heap.size := by have := HC2.out.size; omega
  have hr3 := (hb2.block _ (by omega)).trans HR2.out
  have hq3 := (hb2.block _ (by omega)).trans HQ2.out
  obtain ⟨⟨q0, q1, q2, q3⟩, q4, q5, q6, q7⟩ := eight hq3
  obtain ⟨⟨z0, z1, z2, z3⟩, z4, z5, z6, z7⟩ := eight hr3
  have f4 := frozen_of_row w3 _ 4 _ _ hq3
  have f5 := frozen_of_row w3 _ 5 _ _ hq3
  have f6 := frozen_of_row w3 _ 6 _ _ hq3
  have f7 := frozen_of_row w3 _ 7 _ _ hq3
  have g0 := frozen_of_row w3 _ 0 _ _ hr3
  have g1 := frozen_of_row w3 _ 1 _ _ hr3
  have g2 := frozen_of_row w3 _ 2 _ _ hr3
  have g3 := frozen_of_row w3 _ 3 _ _ hr3
  have g4 := frozen_of_row w3 _ 4 _ _ hr3
  have g5 := frozen_of_row w3 _ 5 _ _ hr3
  have g6 := frozen_of_row w3 _ 6 _ _ hr3
  have g7 := frozen_of_row w3 _ 7 _ _ hr3
  have HK : Hid (∀ w9, Chg [w.heap.size + 1, w.heap.size + 2] w3 w9 → ∃ va' vb', (Ending.returned (.agg #[.int .i64 o1, .string (bstr n1), .int .i64 s1, .slice A1 k1 c1, .int .i64 o2, .string (bstr n2), .int .i64 s2, .slice A2 k2 c2])) = .returned (.agg #[.int .i64 o1, .string (bstr n1), .int .i64 s1, va', .int .i64 o2, .string (bstr n2), .int .i64 s2, vb']) ∧ HasTs (n + 1) w.heap.size w9 va' b.v.args ∧ HasTs (n + 1) w.heap.size w9 vb' b.t.args ∧ Below w.heap.size w w9) := Lib.hid (fun w9 h9 => by
    have k9 : Kept (w.heap.size + 3) w3 w9 := ⟨h9.size, fun k h1 h2 => h9.block k h2 (by simp; omega)⟩
    have kq : Kept (w.heap.size + 3) w1 w2 := ⟨HC2.out.size, fun k h1 h2 => HC2.out.block k h2 (by simp; omega)⟩
    refine ⟨_, _, rfl, ?_, ?_, ?_⟩
    · have h1 : HasTs (n + 1) (w.heap.size + 3) w1 (.slice A1 k1 c1) b.v.args := HasR.mono (RT_steady _) HT1.out (by rw [HZ.out]; omega)
      have h2 := HasR.kept (RT_steady _) h1 kq
      have h3 := HasTs.below h2 (Nat.le_refl _) hb2
      have h4 := HasR.kept (RT_steady _) h3 k9
      exact HasR.mono (RT_steady _) h4 (by omega)
    · have h1 := HasR.mono (RT_steady _) ht2.has hz2
      have h4 := HasR.kept (RT_steady _) h1 k9
      exact HasR.mono (RT_steady _) h4 (by omega)
    · exact (HBW2.out.trans (hb2.mono HBW2.out.size)).trans (h9.below (by have := hb2.size; omega) (by simp)))
  clear ht2 hb2 hr3 hq3 HA HB HC2 HP2 HR2 HQ2 HP0 HR0 HQ0
  go_wp2
  refine bodyPost_ret (v := .agg #[.int .i64 o1, .string (bstr n1), .int .i64 s1, .slice A1 k1 c1, .int .i64 o2, .string (bstr n2), .int .i64 s2, .slice A2 k2 c2]) (by simp [results, Try.results41, go_sem, z0, z1, z2, z3, z4, z5, z6, z7]) rfl (HK.out _ ?_)
  repeat (refine Chg.trans ?_ (Chg.set (by simp) _))
  exact Chg.refl _ _
theorem set8_old {ys : List Value} {p : Nat} {a b c d a' b' c' d' : Value} {i : Nat} (h : i < p ∨ p + 8 ≤ i) : ((((((((ys.set p a).set (p + 1) b).set (p + 2) c).set (p + 3) d).set (p + 4) a').set (p + 5) b').set (p + 6) c').set (p + 7) d')[i]? = ys[i]? := by
  rw [List.getElem?_set_ne (by omega), List.getElem?_set_ne (by omega), List.getElem?_set_ne (by omega), List.getElem?_set_ne (by omega), set4_old (by omega)]
theorem set8_new {ys : List Value} {p : Nat} {a b c d a' b' c' d' : Value} (h : p + 8 ≤ ys.length) : ∀ i, i < 8 → ((((((((ys.set p a).set (p + 1) b).set (p + 2) c).set (p + 3) d).set (p + 4) a').set (p + 5) b').set (p + 6) c').set (p + 7) d')[p + i]? = some ([a, b, c, d, a', b', c', d'].getD i undef) := by
  intro i hi
  by_cases h4 : i < 4
  · obtain ⟨q0, q1, q2, q3⟩ := set4_new (ys := ys) (p := p) (a := a) (b := b) (c := c) (d := d) (by omega)
    rw [List.getElem?_set_ne (by omega), List.getElem?_set_ne (by omega), List.getElem?_set_ne (by omega), List.getElem?_set_ne (by omega)]
    match i, h4 with
    | 0, _ => exact q0
    | 1, _ => exact q1
    | 2, _ => exact q2
    | 3, _ => exact q3
  · obtain ⟨q0, q1, q2, q3⟩ := set4_new (ys := (((ys.set p a).set (p + 1) b).set (p + 2) c).set (p + 3) d) (p := p + 4) (a := a') (b := b') (c := c') (d := d') (by simp; omega)
    match i, h4, hi with
    | 4, _, _ => exact q0
    | 5, _, _ => exact q1
    | 6, _, _ => exact q2
    | 7, _, _ => exact q3
    | 0, h, _ => omega
    | 1, h, _ => omega
    | 2, h, _ => omega
    | 3, h, _ => omega
theorem info_bind : (Try.prog.info? 70).map (fun i => (i.zero, i.size, i.bytes)) = some (some (.agg #[.int .i64 0, .string { data := #[] }, .int .i64 0, .slice none 0 0, .int .i64 0, .string { data := #[] }, .int .i64 0, .slice none 0 0]), 8, 112) := by kernel_rfl
/-- the first j bindings are written -/
def PartB (n B : Nat) (w : World) (ys : List Value) (L : List BindM) (j : Nat) : Prop := ∀ i, i < j → ∃ cs, (∀ q, q < 8 → ys[i * 8 + q]? = some (cs.getD q undef)) ∧ RB n B w cs (L.getD i default)
set_option maxRecDepth 20000 in
set_option maxHeartbeats 2000000 in
/-- laws.toBindingS -/
theorem toBS_any {n : Nat} (L : List BindM) (v : Value) (w : World) {lo : Nat} (h : HasBs n lo w v L) (hsz : bsz L ≤ 1048576) :
    Calls Try.prog 27 #[v] w fun e w' => ∃ v', e = .returned v' ∧ HasBs (n + 1) w.heap.size w' v' L ∧ Below w.heap.size w w' := by
  obtain ⟨N, hN⟩ : ∃ N, N = L.length := ⟨_, rfl⟩
  obtain ⟨A, c, rfl, h⟩ := HasR.shape h hN.symm
  obtain ⟨i0, hi, hz0, hz1, hz2⟩ := info_parts info_bind
  have hn2 : N ≤ 1048576 := by have := bsz_len L; omega
  have HH := Lib.hid h
  have HN := Lib.hid hN
  have HSZ := Lib.hid hsz
  clear h hN hsz
  go_enter Try.func27, Try.ntmps27
  go_wp2_with (at_make; refine wpList_make_full _ rfl _ _ 30 rfl w.heap.size 70 i0 _ 8 Try.underlying30 hi hz0 hz1 _ _ _ _ N rfl rfl rfl rfl (by rw [hz2]; omega) (by unfold maxLen; omega) (Nat.le_refl _) ?_)
  intro w1 hown hgrow
  have hsz1 : w.heap.size < w1.heap.size := by
    rcases hown.2 with ⟨hv, _⟩ | ⟨g, cap, cur, hv, hb, hg, _⟩
    · cases hv
    · have := (Array.getElem?_eq_some_iff.1 hg).1; omega
  go_wp2
  go_loopw [4] (fun i wr => ∃ (j : Nat) (ys : List Value), j ≤ N ∧ i = .int .i64 j ∧ wr.ownsRow w.heap.size 70 8 (.slice (some ⟨w.heap.size, 0, none⟩) N N) N ys ∧
      Hid (PartB (n + 1) (w.heap.size + 1) wr ys L j) ∧ w.heap.size < wr.heap.size ∧ Below w.heap.size w wr) (fun i _ => N - (intOf i).toNat)
  case atStart => exact ⟨0, _, Nat.zero_le _, rfl, hown, Lib.hid (fun i hi => by omega), hsz1, (Below.refl _ _).grown hgrow (Nat.le_refl _) (by intro k h; cases h)⟩
  case round =>
    obtain ⟨j, ys, hj, rfl, hown, HY, hsz, hbel⟩ := hrel
    by_cases hlt : j < N
    · obtain ⟨g, o, A1, c1, A2, c2, rfl, hg, hc, h1, h2, hv, ht⟩ := bind_at HH.out hlt
      obtain ⟨⟨x0, x1, x2, x3⟩, x4, x5, x6, x7⟩ := hc.below hbel
      have h1' := h1.below (Nat.le_refl _) hbel
      have h2' := h2.below (Nat.le_refl _) hbel
      have hse := bsz_at (L := L) (j := j) (by have := HN.out; omega)
      have hs1 : sizes (L.getD j default).v.args ≤ 1048576 := by have := HSZ.out; omega
      have hs2 : sizes (L.getD j default).t.args ≤ 1048576 := by have := HSZ.out; omega
      obtain ⟨b, hbd⟩ : ∃ b, b = L.getD j default := ⟨_, rfl⟩
      rw [← hbd] at x0 x1 x2 x3 x4 x5 x6 x7 h1' h2' hv ht hs1 hs2
      have HT := Lib.hid (toB_any b _ _ wr h1' h2' hs1 hs2)
      have HX := Lib.hid hbd
      have HBB := Lib.hid (And.intro hv ht)
      have HOWN := Lib.hid hown
      have HSH : Hid (∀ {W lo v}, HasTs (n + 1) lo W v b.v.args → ∃ A c, v = .slice A b.v.args.length c) := Lib.hid (fun h => by obtain ⟨A, c, e, _⟩ := HasR.shape h rfl; exact ⟨A, c, e⟩)
      have HSH2 : Hid (∀ {W lo v}, HasTs (n + 1) lo W v b.t.args → ∃ A c, v = .slice A b.t.args.length c) := Lib.hid (fun h => by obtain ⟨A, c, e, _⟩ := HasR.shape h rfl; exact ⟨A, c, e⟩)
      unfold aggB at HT
      obtain ⟨o1, ho1⟩ : ∃ q, q = b.v.op := ⟨_, rfl⟩
      obtain ⟨n1, hn1⟩ : ∃ q, q = b.v.name := ⟨_, rfl⟩
      obtain ⟨s1, hs1'⟩ : ∃ q, q = b.v.sort := ⟨_, rfl⟩
      obtain ⟨k1, hk1⟩ : ∃ q, q = b.v.args.length := ⟨_, rfl⟩
      obtain ⟨o2, ho2⟩ : ∃ q, q = b.t.op := ⟨_, rfl⟩
      obtain ⟨n2, hn2'⟩ : ∃ q, q = b.t.name := ⟨_, rfl⟩
      obtain ⟨s2, hs2'⟩ : ∃ q, q = b.t.sort := ⟨_, rfl⟩
      obtain ⟨k2, hk2⟩ : ∃ q, q = b.t.args.length := ⟨_, rfl⟩
      have HE := Lib.hid (And.intro ho1 (And.intro hn1 (And.intro hs1' (And.intro ho2 (And.intro hn2' hs2')))))
      rw [← hk1] at x3 HT HSH
      rw [← hk2] at x7 HT HSH2
      rw [← ho1] at x0 HT
      rw [← hn1] at x1 HT
      rw [← hs1'] at x2 HT
      rw [← ho2] at x4 HT
      rw [← hn2'] at x5 HT
      rw [← hs2'] at x6 HT
      clear hc h1 h2 h1' h2' hv ht hse hs1 hs2 hbd hown ho1 hn1 hs1' hk1 ho2 hn2' hs2' hk2
      go_wp2_with fail
      refine (HT.out).mono ?_
      rintro e w2 ⟨va', vb', rfl, ha', hb', hb2⟩
      obtain ⟨A3, c3, rfl⟩ := HSH.out ha'
      obtain ⟨A4, c4, rfl⟩ := HSH2.out hb'
      have HO2 := Lib.hid (own_below HOWN.out hb2)
      have HV := Lib.hid (And.intro ha' hb')
      have HB2 := Lib.hid hb2
      obtain ⟨⟨v0, hw0⟩, hf0⟩ := own_get HO2.out (i := j * 8) (by omega)
      obtain ⟨⟨v1, hw1⟩, hf1⟩ := own_get HO2.out (i := j * 8 + 1) (by omega)
      obtain ⟨⟨v2, hw2⟩, hf2⟩ := own_get HO2.out (i := j * 8 + 2) (by omega)
      obtain ⟨⟨v3, hw3⟩, hf3⟩ := own_get HO2.out (i := j * 8 + 3) (by omega)
      obtain ⟨⟨v4, hw4⟩, hf4⟩ := own_get HO2.out (i := j * 8 + 4) (by omega)
      obtain ⟨⟨v5, hw5⟩, hf5⟩ := own_get HO2.out (i := j * 8 + 5) (by omega)
      obtain ⟨⟨v6, hw6⟩, hf6⟩ := own_get HO2.out (i := j * 8 + 6) (by omega)
      obtain ⟨⟨v7, hw7⟩, hf7⟩ := own_get HO2.out (i := j * 8 + 7) (by omega)
      clear ha' hb'
      go_wp2
      go_roundw
      case rel =>
        refine ⟨j + 1, _, by omega, by go_num, setCell_own (setCell_own (setCell_own (setCell_own (setCell_own (setCell_own (setCell_own (setCell_own HO2.out (j * 8) _) (j * 8 + 1) _) (j * 8 + 2) _) (j * 8 + 3) _) (j * 8 + 4) _) (j * 8 + 5) _) (j * 8 + 6) _) (j * 8 + 7) _, Lib.hid ?_, by simp [World.setCell]; have := hb2.size; omega, ?_⟩
        · have hlen : ys.length = N * 8 := by have := HOWN.out.1; omega
          have kp : ∀ (W : World) i u, Kept (w.heap.size + 1) W (W.setCell ⟨w.heap.size, i, none⟩ u) := fun W i u => Kept.set (by show w.heap.size < _; omega) u
          have kk := (((((((kp w2 (j * 8) (.int .i64 o1)).trans (kp _ (j * 8 + 1) (.string (bstr n1)))).trans (kp _ (j * 8 + 2) (.int .i64 s1))).trans (kp _ (j * 8 + 3) (.slice A3 k1 c3))).trans (kp _ (j * 8 + 4) (.int .i64 o2))).trans (kp _ (j * 8 + 5) (.string (bstr n2)))).trans (kp _ (j * 8 + 6) (.int .i64 s2))).trans (kp _ (j * 8 + 7) (.slice A4 k2 c4))
          obtain ⟨e1, e2, e3, e4, e5, e6⟩ := HE.out
          intro i hi
          by_cases hij : i = j
          · subst hij
            have hv1 : HasTs (n + 1) (w.heap.size + 1) w2 (.slice A3 k1 c3) b.v.args := HasR.mono (RT_steady _) HV.out.1 (by omega)
            have hv2 : HasTs (n + 1) (w.heap.size + 1) w2 (.slice A4 k2 c4) b.t.args := HasR.mono (RT_steady _) HV.out.2 (by omega)
            refine ⟨_, set8_new (by omega), .slice A3 k1 c3, .slice A4 k2 c4, ?_, by rw [← HX.out]; exact HasR.kept (RT_steady _) hv1 kk, by rw [← HX.out]; exact HasR.kept (RT_steady _) hv2 kk, ?_⟩
            · rw [← HX.out, e1, e2, e3, e4, e5, e6]
            · rw [← HX.out]; exact HBB.out
          · obtain ⟨cs, h1, h2⟩ := HY.out i (by omega)
            refine ⟨cs, fun q hq => ?_, (RB_steady _).kept ((RB_steady _).kept h2 (Kept.below HB2.out (Nat.le_refl _))) kk⟩
            rw [set8_old (by omega)]
            exact h1 q hq
        · exact ((((((((hbel.trans (hb2.mono hbel.size)).setCell (Nat.le_refl _) _).setCell (Nat.le_refl _) _).setCell (Nat.le_refl _) _).setCell (Nat.le_refl _) _).setCell (Nat.le_refl _) _).setCell (Nat.le_refl _) _).setCell (Nat.le_refl _) _).setCell (Nat.le_refl _) _
      case measure => simp [intOf]; omega
    · obtain rfl : j = N := by omega
      have HW : Hid (HasBs (n + 1) w.heap.size wr (.slice (some ⟨w.heap.size, 0, none⟩) j j) L) := Lib.hid (by
        refine HasR.of_own hown HN.out.symm (fun i hi => ?_)
        obtain ⟨cs, h1, h2⟩ := HY.out i hi
        exact ⟨cs, h1, (RB_steady _).mono h2 (by omega)⟩)
      clear hown
      go_wp2
      go_ret
      exact ⟨_, rfl, HW.out, hbel⟩
set_option maxRecDepth 20000 in
set_option maxHeartbeats 1000000 in
/-- laws.eqBinding, at equal bindings -/
theorem eqB_any {n m : Nat} (b : BindM) (va vb ua ub : Value) (w : World) {lo lo' : Nat} (ha : HasTs n lo w va b.v.args) (hb : HasTs n lo w vb b.t.args) (ha2 : HasTs m lo' w ua b.v.args) (hb2 : HasTs m lo' w ub b.t.args) :
    Calls Try.prog 46 #[aggB b va vb, aggB b ua ub] w fun e w' => e = .returned (.bool true) ∧ Below w.heap.size w w' := by
  have HA := Lib.hid (fun W (hW : Below w.heap.size w W) => eqTerm_any b.v.op b.v.name b.v.sort b.v.args va ua W (ha.below (Nat.le_refl _) hW) (ha2.below (Nat.le_refl _) hW))
  have HB := Lib.hid (fun W (hW : Below w.heap.size w W) => eqTerm_any b.t.op b.t.name b.t.sort b.t.args vb ub W (hb.below (Nat.le_refl _) hW) (hb2.below (Nat.le_refl _) hW))
  obtain ⟨A, ca, rfl, _⟩ := HasR.shape ha rfl
  obtain ⟨B, cb, rfl, _⟩ := HasR.shape hb rfl
  obtain ⟨C, cc, rfl, _⟩ := HasR.shape ha2 rfl
  obtain ⟨D, cd, rfl, _⟩ := HasR.shape hb2 rfl
  unfold aggB
  obtain ⟨o1, ho1⟩ : ∃ q, q = b.v.op := ⟨_, rfl⟩
  obtain ⟨n1, hn1⟩ : ∃ q, q = b.v.name := ⟨_, rfl⟩
  obtain ⟨s1, hs1'⟩ : ∃ q, q = b.v.sort := ⟨_, rfl⟩
  obtain ⟨k1, hk1⟩ : ∃ q, q = b.v.args.length := ⟨_, rfl⟩
  obtain ⟨o2, ho2⟩ : ∃ q, q = b.t.op := ⟨_, rfl⟩
  obtain ⟨n2, hn2⟩ : ∃ q, q = b.t.name := ⟨_, rfl⟩
  obtain ⟨s2, hs2'⟩ : ∃ q, q = b.t.sort := ⟨_, rfl⟩
  obtain ⟨k2, hk2⟩ : ∃ q, q = b.t.args.length := ⟨_, rfl⟩
  rw [← ho1, ← hn1, ← hs1', ← hk1] at HA ⊢
  rw [← ho2, ← hn2, ← hs2', ← hk2] at HB ⊢
  obtain ⟨W, hW⟩ : ∃ W, W = (w.alloc (.cells #[.int .i64 o1, .string (bstr n1), .int .i64 s1, .slice A k1 ca, .int .i64 o2, .string (bstr n2), .int .i64 s2, .slice B k2 cb] 70)).alloc (.cells #[.int .i64 o1, .string (bstr n1), .int .i64 s1, .slice C k1 cc, .int .i64 o2, .string (bstr n2), .int .i64 s2, .slice D k2 cd] 70) := ⟨_, rfl⟩
  have hbW : Below w.heap.size w W := by rw [hW]; exact ((Below.refl _ _).alloc (Nat.le_refl _) _).alloc (by simp) _
  have hp0 := eight (show W.heap[w.heap.size]? = some (.cells #[.int .i64 o1, .string (bstr n1), .int .i64 s1, .slice A k1 ca, .int .i64 o2, .string (bstr n2), .int .i64 s2, .slice B k2 cb] 70 (0, 0)) by rw [hW]; exact (Below.heap_alloc _ _ _ (by simp)).trans (heap_at _ _ _ rfl))
  have hq0 := eight (show W.heap[w.heap.size + 1]? = some (.cells #[.int .i64 o1, .string (bstr n1), .int .i64 s1, .slice C k1 cc, .int .i64 o2, .string (bstr n2), .int .i64 s2, .slice D k2 cd] 70 (0, 0)) by rw [hW]; exact heap_at _ _ _ (by simp))
  have HP := Lib.hid hp0
  have HQ := Lib.hid hq0
  have HBW := Lib.hid hbW
  obtain ⟨⟨x0, x1, x2, x3⟩, x4, x5, x6, x7⟩ := hp0
  obtain ⟨⟨y0, y1, y2, y3⟩, y4, y5, y6, y7⟩ := hq0
  clear ha hb ha2 hb2 ho1 hn1 hs1' hk1 ho2 hn2 hs2' hk2 hbW
  go_enter Try.func46, Try.ntmps46
  go_wp2_with fail
  rw [← hW]
  clear hW
  refine (HA.out W HBW.out).mono ?_
  rintro e w1 ⟨rfl, hb1⟩
  have hbw := HBW.out.trans (hb1.mono HBW.out.size)
  have k : ∀ {g o : Nat} {v : Value}, W.cell? ⟨g, o, none⟩ = some v → w1.cell? ⟨g, o, none⟩ = some v := fun {g o v} h => (hb1.cell (p := ⟨g, o, none⟩) (World.block_lt_of_cell? W _ h)).trans h
  obtain ⟨_, a4, a5, a6, a7⟩ := HP.out
  obtain ⟨_, b4, b5, b6, b7⟩ := HQ.out
  have d4 := k a4
  have d5 := k a5
  have d6 := k a6
  have d7 := k a7
  have e4 := k b4
  have e5 := k b5
  have e6 := k b6
  have e7 := k b7
  clear k hb1 a4 a5 a6 a7 b4 b5 b6 b7 x0 x1 x2 x3 x4 x5 x6 x7 y0 y1 y2 y3 y4 y5 y6 y7
  go_wp2_with fail
  refine (HB.out w1 hbw).mono ?_
  rintro e w2 ⟨rfl, hb2⟩
  have hbw2 := hbw.trans (hb2.mono hbw.size)
  clear hb2
  go_wp2
  go_ret
  exact ⟨rfl, hbw2⟩
theorem Cells8.at {w w' : World} {g p : Nat} {b : BindM} {A1 : Option Addr} {c1 : Nat} {A2 : Option Addr} {c2 : Nat} (h : Cells8 w g p b A1 c1 A2 c2) (hb : Below w.heap.size w w') : Cells8 w' g p b A1 c1 A2 c2 := h.below hb
set_option maxRecDepth 20000 in
set_option maxHeartbeats 2000000 in
/-- laws.eqBindingS, at equal lists -/
theorem eqBS_any {n m : Nat} (L : List BindM) (va vb : Value) (w : World) {lo lo' : Nat} (ha : HasBs n lo w va L) (hb : HasBs m lo' w vb L) :
    Calls Try.prog 32 #[va, vb] w fun e w' => e = .returned (.bool true) ∧ Below w.heap.size w w' := by
  obtain ⟨N, hN⟩ : ∃ N, N = L.length := ⟨_, rfl⟩
  obtain ⟨A, ca, rfl, ha⟩ := HasR.shape ha hN.symm
  obtain ⟨B, cb, rfl, hb⟩ := HasR.shape hb hN.symm
  have hla := ha.len.2.1
  have HA := Lib.hid ha
  have HB := Lib.hid hb
  clear ha hb hN
  go_enter Try.func32, Try.ntmps32
  go_wp2
  go_loopw [5] (fun i wr => ∃ k : Nat, k ≤ N ∧ i = .int .i64 k ∧ Below w.heap.size w wr) (fun i _ => N - (intOf i).toNat)
  case atStart => exact ⟨0, Nat.zero_le _, rfl, Below.refl _ _⟩
  case round =>
    obtain ⟨k, hk, rfl, hbel⟩ := hrel
    by_cases hlt : k < N
    · obtain ⟨ga, oa, A1, a1, A2, a2, rfl, hga, hca, h1, h2, hv, ht⟩ := bind_at HA.out hlt
      obtain ⟨gb, ob, B1, b1, B2, b2, rfl, hgb, hcb, h3, h4, _, _⟩ := bind_at HB.out hlt
      have hca' := hca.below hbel
      have hcb' := hcb.below hbel
      have h1' := h1.below (Nat.le_refl _) hbel
      have h2' := h2.below (Nat.le_refl _) hbel
      have h3' := h3.below (Nat.le_refl _) hbel
      have h4' := h4.below (Nat.le_refl _) hbel
      obtain ⟨b, hbd⟩ : ∃ b, b = L.getD k default := ⟨_, rfl⟩
      rw [← hbd] at hca' hcb' h1' h2' h3' h4'
      have HE := Lib.hid (fun (t : BoxC (Below wr.heap.size wr)) => eqB_any b _ _ _ _ t.W (h1'.below (Nat.le_refl _) t.h) (h2'.below (Nat.le_refl _) t.h) (h3'.below (Nat.le_refl _) t.h) (h4'.below (Nat.le_refl _) t.h))
      have HC : Hid (∀ t : BoxC (Below wr.heap.size wr), Cells8 t.W ga (oa + k * 8) b A1 a1 A2 a2 ∧ Cells8 t.W gb (ob + k * 8) b B1 b1 B2 b2) := Lib.hid (fun t => ⟨hca'.below t.h, hcb'.below t.h⟩)
      unfold Cells8 at HC
      unfold aggB at HE
      obtain ⟨o1, ho1⟩ : ∃ q, q = b.v.op := ⟨_, rfl⟩
      obtain ⟨n1, hn1⟩ : ∃ q, q = b.v.name := ⟨_, rfl⟩
      obtain ⟨s1, hs1'⟩ : ∃ q, q = b.v.sort := ⟨_, rfl⟩
      obtain ⟨k1, hk1⟩ : ∃ q, q = b.v.args.length := ⟨_, rfl⟩
      obtain ⟨o2, ho2⟩ : ∃ q, q = b.t.op := ⟨_, rfl⟩
      obtain ⟨n2, hn2⟩ : ∃ q, q = b.t.name := ⟨_, rfl⟩
      obtain ⟨s2, hs2'⟩ : ∃ q, q = b.t.sort := ⟨_, rfl⟩
      obtain ⟨k2, hk2⟩ : ∃ q, q = b.t.args.length := ⟨_, rfl⟩
      rw [← ho1, ← hn1, ← hs1', ← hk1, ← ho2, ← hn2, ← hs2', ← hk2] at HE HC
      have b0 := fun t => (HC.out t).1.1.1
      have b1 := fun t => (HC.out t).1.1.2.1
      have b2 := fun t => (HC.out t).1.1.2.2.1
      have b3 := fun t => (HC.out t).1.1.2.2.2
      have b4 := fun t => (HC.out t).1.2.1
      have b5 := fun t => (HC.out t).1.2.2.1
      have b6 := fun t => (HC.out t).1.2.2.2.1
      have b7 := fun t => (HC.out t).1.2.2.2.2
      have b8 := fun t => (HC.out t).2.1.1
      have b9 := fun t => (HC.out t).2.1.2.1
      have b10 := fun t => (HC.out t).2.1.2.2.1
      have b11 := fun t => (HC.out t).2.1.2.2.2
      have b12 := fun t => (HC.out t).2.2.1
      have b13 := fun t => (HC.out t).2.2.2.1
      have b14 := fun t => (HC.out t).2.2.2.2.1
      have b15 := fun t => (HC.out t).2.2.2.2.2
      have nb : Nonempty (BoxC (Below wr.heap.size wr)) := ⟨⟨_, Below.refl _ _⟩⟩
      clear hca hcb hca' hcb' h1 h2 h3 h4 h1' h2' h3' h4' hbd ho1 hn1 hs1' hk1 ho2 hn2 hs2' hk2 hv ht HC
      go_wp2_with fail
      refine region_boxC (C := Below wr.heap.size wr) (by kernel_rfl) (by kernel_rfl) (Below.refl _ _).drew ?_
      repeat go_big_quiet_step ((go_at_call 46; exact (HE.out _).mono (fun _ _ h => ⟨h.1, BoxC.step _ h.2⟩)))
      refine wpQuiet_nil ?_
      rintro w5 ⟨t5, rfl⟩
      have HT5 := Lib.hid t5.h
      clear b0 b1 b2 b3 b4 b5 b6 b7 b8 b9 b10 b11 b12 b13 b14 b15 nb HE
      go_wp2
      go_roundw
      case rel => exact ⟨k + 1, by omega, by go_num, hbel.trans (HT5.out.mono hbel.size)⟩
      case measure => simp [intOf]; omega
    · obtain rfl : k = N := by omega
      go_wp2
      go_ret
      exact ⟨rfl, hbel⟩
end Go.Proofs.Ytiilamngcoegiaa.bndt
