/-
  THE WALK OF FnVariables.
-/
import Derived.Test.YtejmfiocdecigaaDrawo
import Derived.Test.YtejmfiocdecigaaDrawv
import Derived.Test.YtejmfiocdecigaaTermoc
namespace Go.Proofs.Ytejmfiocdecigaa.fnVariables
open Go.ChangeShapes Go.WideShapes Go.ChangeAt Go.RowKit
open mem rowl trm trmv terml termb termt termu termv termvo termx termz termvr termcf termvx termin termic draw drawm drawt drawo drawv

theorem any_has {L : List TermM} {t v : TermM} (hL : L = varsT t) (hb : bare t) (h1 : v.op = -1) (h2 : v.args = []) : L.any (fun x => decide (cmp x v = 0)) = occT v t := by
  rw [Bool.eq_iff_iff, occ_vin ⟨h1, h2⟩ t hb, ← mem_varsT, ← hL, List.any_eq_true]
  constructor
  · rintro ⟨x, hx, hc⟩
    have := (cmp_zero x v).1 (of_decide_eq_true hc)
    rw [← this]; exact hx
  · intro hv
    exact ⟨v, hv, decide_eq_true (cmp_self v)⟩
set_option maxHeartbeats 8000000 in
set_option maxRecDepth 100000 in
theorem go {n cap : Nat} {A : Option Addr} (w : World) (hn : n ≤ 9223372036854775807) (hcode : n ≤ 1048576 → draw.Code w.heap.size w (.slice A n cap) n) :
    Calls Try.prog 4 #[.slice A n cap] w fun e w' => e = .returned (.bool true) ∧ Below w.heap.size w w' := by
  by_cases hbig : 1048576 < n
  · have hd : decide (1048576 < n) = true := decide_eq_true hbig
    have HBG := Lib.hid (fun W => big_any (A := A) (cap := cap) hn W)
    rw [hd] at HBG
    clear hd hcode hbig
    go_enter Try.func4, Try.ntmps4
    go_wp2_with fail
    refine (HBG.out _).mono ?_
    rintro e w' ⟨rfl, rfl⟩
    go_wp2
    go_ret
    exact ⟨rfl, Below.refl _ _⟩
  have hd : decide (1048576 < n) = false := decide_eq_false hbig
  have HBG := Lib.hid (fun W => big_any (A := A) (cap := cap) hn W)
  rw [hd] at HBG
  have HDR := Lib.hid (occDraw_any (hcode (by omega)) w (Below.refl _ _))
  clear hd hcode hbig hn
  go_enter Try.func4, Try.ntmps4
  go_wp2_with fail
  refine (HBG.out _).mono ?_
  rintro e w' ⟨rfl, rfl⟩
  go_wp2_with fail
  refine (HDR.out).mono ?_
  rintro e w1 ⟨x, t, vx, vt, rfl, hhx, hht, hrx, hrt, hb1⟩
  obtain ⟨Ax, cx, rfl, _⟩ := HasR.shape hhx rfl
  obtain ⟨At, ct, rfl, _⟩ := HasR.shape hht rfl
  have hst : sizes t.args ≤ 1048576 := by have h1 := hrt.2.2; have h2 := termro.size_eq t; omega
  have hsx : sizes x.args ≤ 1048576 := by have h1 := hrx.2.2; have h2 := termro.size_eq x; omega
  have HVA := Lib.hid (fun W (hW : Below w1.heap.size w1 W) => varsOf_any t _ W (hht.below (Nat.le_refl _) hW) hrt.1 hst)
  have HOC := Lib.hid (fun y vy W (hW : Below w1.heap.size w1 W) (hy : HasTs 3 0 W vy y.args) (hsy : sizes y.args ≤ 1048576) => termoc.occursIn_any y t vy _ W hy (hht.below (Nat.le_refl _) hW) hrt.1 hsy hst)
  have HGR := Lib.hid (fun W (hW : Below w1.heap.size w1 W) => isGround_any t _ W (hht.below (Nat.le_refl _) hW) hrt.1 hst _ rfl)
  have HSO := Lib.hid (fun W (hW : Below w1.heap.size w1 W) => occOf_all 3 3 x t _ _ W w.heap.size w.heap.size (hhx.below (Nat.le_refl _) hW) (hht.below (Nat.le_refl _) hW))
  have HX := Lib.hid (And.intro hhx hrx)
  have HT := Lib.hid (And.intro hht hrt)
  clear hhx hht hrx hrt HDR HBG
  have HB1 := Lib.hid hb1
  unfold aggT at HVA HOC HGR HSO
  have hb2 : Below w1.heap.size w1 ((w1.alloc (.cells #[.int .i64 x.op, .string (bstr x.name), .int .i64 x.sort, .slice Ax x.args.length cx] 26)).alloc (.cells #[.int .i64 t.op, .string (bstr t.name), .int .i64 t.sort, .slice At t.args.length ct] 26)) := ((Below.refl _ _).alloc (Nat.le_refl _) _).alloc (by simp) _
  clear hb1
  go_wp2_with fail
  refine (HVA.out _ hb2).mono ?_
  rintro e w3 ⟨g, cp, m, hm, rfl, ho, hb3⟩
  have hz3 : w1.heap.size + 2 ≤ w3.heap.size := by have := hb3.size; simp at this; omega
  have HB3 : Hid (Below w1.heap.size w1 w3) := Lib.hid (hb2.trans (hb3.mono hb2.size))
  have HX3 : Hid (Box w3 w1.heap.size (.int .i64 x.op) (.string (bstr x.name)) (.int .i64 x.sort) (.slice Ax x.args.length cx) ∧ Box w3 (w1.heap.size + 1) (.int .i64 t.op) (.string (bstr t.name)) (.int .i64 t.sort) (.slice At t.args.length ct)) := Lib.hid ⟨box_below (box_below (heap_at _ _ _ rfl) ((Below.refl _ _).alloc (Nat.le_refl _) _)) hb3, box_below (heap_at _ _ _ (by simp)) hb3⟩
  have HM := Lib.hid hm
  have HO := Lib.hid ho
  have HFL : Hid (∀ y ∈ varsT t, Flat y) := Lib.hid (fun y hy => flat_vin t 3 w.heap.size w1 _ HT.out.1 HT.out.2.1 y (mem_varsT.1 hy))
  have hgw3 := (own_lt ho).2.1
  have hm30 : m ≤ 1073741824 := by
    have h1 := colT_len t []
    have h2 := HT.out.2.2.2
    unfold varsT at hm
    simp only [List.length_nil] at h1
    omega
  clear hm ho hb2 hb3 HVA
  -- the arguments' names
  obtain ⟨tl, htl⟩ : ∃ q, q = t.args.length := ⟨_, rfl⟩
  obtain ⟨xl, hxl⟩ : ∃ q, q = x.args.length := ⟨_, rfl⟩
  obtain ⟨to, hto⟩ : ∃ q, q = t.op := ⟨_, rfl⟩
  obtain ⟨tn, htn⟩ : ∃ q, q = t.name := ⟨_, rfl⟩
  obtain ⟨ts, hts⟩ : ∃ q, q = t.sort := ⟨_, rfl⟩
  obtain ⟨xo, hxo⟩ : ∃ q, q = x.op := ⟨_, rfl⟩
  obtain ⟨xn, hxn⟩ : ∃ q, q = x.name := ⟨_, rfl⟩
  obtain ⟨xs, hxs⟩ : ∃ q, q = x.sort := ⟨_, rfl⟩
  have HXX : Hid (xo = x.op ∧ xl = x.args.length) := Lib.hid ⟨hxo, hxl⟩
  have HOX := Lib.hid (fun W (hW : Below w1.heap.size w1 W) => HOC.out x _ W hW (HasR.mono (RT_steady 3) (HX.out.1.below (Nat.le_refl _) hW) (Nat.zero_le _)) hsx)
  have HHA := Lib.hid (fun W (hW : Below w1.heap.size w1 W) (hO : W.ownsRow w3.heap.size 26 4 (.slice (some ⟨g, 0, none⟩) m cp) m (flatV (varsT t)) ∨ W.ownsRow 0 26 4 (.slice (some ⟨g, 0, none⟩) m cp) m (flatV (varsT t))) => has_any (varsT t) x _ m g cp 0 W HM.out hm30 HFL.out (HX.out.1.below (Nat.le_refl _) hW) (by rcases hO with h | h; exact own_mono h (Nat.zero_le _); exact h) _ rfl)
  unfold aggT at HHA
  obtain ⟨z, hz⟩ : ∃ z, z = occT x t := ⟨_, rfl⟩
  obtain ⟨gr, hgrr⟩ : ∃ z : Bool, z = decide (varsT t = []) := ⟨_, rfl⟩
  rw [← hz] at HOX HSO
  rw [← hgrr] at HGR
  have HZ := Lib.hid hz
  have HGV : Hid (gr = ((m : Int) == 0)) := Lib.hid (by
    have := HM.out
    rw [hgrr, this, Bool.eq_iff_iff]
    simp)
  rw [← htl, ← hto, ← htn, ← hts] at HX3 HOC HOX HGR HSO
  rw [← hxl, ← hxo, ← hxn, ← hxs] at HX3 HOX HSO HHA
  rw [← htl, ← hxl, ← hto, ← htn, ← hts, ← hxo, ← hxn, ← hxs]
  clear hz hgrr htl hxl hto htn hts hxo hxn hxs hst
  go_wp2_with fail
  go_loopw [6] (fun v6 wr => ∃ k : Nat, v6 = .int .i64 k ∧ k ≤ m ∧ Below w3.heap.size w3 wr) (fun i _ => m - (intOf i).toNat)
  case atStart => exact ⟨0, rfl, Nat.zero_le _, Below.refl _ _⟩
  case round =>
    obtain ⟨k, rfl, hkm, hbel⟩ := hrel
    have hsz := hbel.size
    have HBW : Hid (Below w1.heap.size w1 wr) := Lib.hid (HB3.out.trans (hbel.mono (by omega)))
    have hx1 : w1.heap.size + 1 < wr.heap.size := by omega
    have hx0 : w1.heap.size < wr.heap.size := by omega
    have hgr : g < wr.heap.size := by omega
    obtain ⟨⟨p0, p1, p2, p3⟩, _⟩ := (box_below HX3.out.1 hbel).cells
    obtain ⟨⟨q0, q1, q2, q3⟩, _⟩ := (box_below HX3.out.2 hbel).cells
    have b0 : ∀ t : BoxC (Below wr.heap.size wr), t.W.cell? ⟨w1.heap.size + 1, 0, none⟩ = some (.int .i64 to) := fun t => t.cell q0 hx1
    have b1 : ∀ t : BoxC (Below wr.heap.size wr), t.W.cell? ⟨w1.heap.size + 1, 1, none⟩ = some (.string (bstr tn)) := fun t => t.cell q1 hx1
    have b2 : ∀ t : BoxC (Below wr.heap.size wr), t.W.cell? ⟨w1.heap.size + 1, 2, none⟩ = some (.int .i64 ts) := fun t => t.cell q2 hx1
    have b3 : ∀ t : BoxC (Below wr.heap.size wr), t.W.cell? ⟨w1.heap.size + 1, 3, none⟩ = some (.slice At tl ct) := fun t => t.cell q3 hx1
    have a0 : ∀ t : BoxC (Below wr.heap.size wr), t.W.cell? ⟨w1.heap.size, 0, none⟩ = some (.int .i64 xo) := fun t => t.cell p0 hx0
    have a1 : ∀ t : BoxC (Below wr.heap.size wr), t.W.cell? ⟨w1.heap.size, 1, none⟩ = some (.string (bstr xn)) := fun t => t.cell p1 hx0
    have a2 : ∀ t : BoxC (Below wr.heap.size wr), t.W.cell? ⟨w1.heap.size, 2, none⟩ = some (.int .i64 xs) := fun t => t.cell p2 hx0
    have a3 : ∀ t : BoxC (Below wr.heap.size wr), t.W.cell? ⟨w1.heap.size, 3, none⟩ = some (.slice Ax xl cx) := fun t => t.cell p3 hx0
    clear p0 p1 p2 p3 q0 q1 q2 q3
    have HO1 := Lib.hid (own_below HO.out hbel)
    have nb : Nonempty (BoxC (Below wr.heap.size wr)) := ⟨⟨_, Below.refl _ _⟩⟩
    by_cases hlt : k < m
    · have hln : m = (varsT t).length := HM.out
      obtain ⟨c0, c1, c2, c3⟩ := cells_at HO1.out hlt (flatV_at (by omega))
      obtain ⟨y, hy⟩ : ∃ y, y = (varsT t).getD k default := ⟨_, rfl⟩
      have hyv : y ∈ varsT t := by rw [hy, getD_at (by omega)]; exact List.getElem_mem _
      have hyo := vin_var t (mem_varsT.1 hyv)
      have hyt : occT y t = true := (occ_vin hyo t HT.out.2.2.1).2 (mem_varsT.1 hyv)
      rw [← hy] at c0 c1 c2
      rw [hyo.1] at c0
      have HOK := Lib.hid (fun W' (hW' : Below wr.heap.size wr W') => HOC.out y (.slice none 0 0) W' (HBW.out.trans (hW'.mono HBW.out.size)) (by rw [hyo.2]; exact HasR.nil _ _ _ (by unfold maxLen; omega) _) (by rw [hyo.2]; simp [sizes]))
      rw [hyt, hyo.1] at HOK
      have i1 : (0 : Int) ≤ (k : Int) := by omega
      have i2 : (k : Int) < (m : Int) := by omega
      by_cases hk0 : k = 0
      · subst hk0
        have r0 : ∀ t : BoxC (Below wr.heap.size wr), t.W.cell? ⟨g, 0 * 4, none⟩ = some (.int .i64 (-1)) := fun t => t.cell c0 hgr
        have r1 : ∀ t : BoxC (Below wr.heap.size wr), t.W.cell? ⟨g, 0 * 4 + 1, none⟩ = some (.string (bstr y.name)) := fun t => t.cell c1 hgr
        have r2 : ∀ t : BoxC (Below wr.heap.size wr), t.W.cell? ⟨g, 0 * 4 + 2, none⟩ = some (.int .i64 y.sort) := fun t => t.cell c2 hgr
        have r3 : ∀ t : BoxC (Below wr.heap.size wr), t.W.cell? ⟨g, 0 * 4 + 3, none⟩ = some (.slice none 0 0) := fun t => t.cell c3 hgr
        clear hln hy hyv hyo hyt c0 c1 c2 c3 HHA HGR HSO HOX
        go_wp2_with fail
        refine region_boxC (C := Below wr.heap.size wr) (by kernel_rfl) (by kernel_rfl) (Below.refl _ _).drew ?_
        repeat (go_big_quiet_step ((go_at_call 16; exact (HOK.out _ (BoxC.h _)).mono (fun _ _ h => ⟨h.1, BoxC.step _ h.2⟩))))
        refine wpQuiet_nil ?_
        rintro w5 ⟨t5, rfl⟩
        have hh := t5.h
        clear r0 r1 r2 r3 a0 a1 a2 a3 b0 b1 b2 b3
        go_wp2
        go_roundw
        case measure => simp [intOf]; omega
        case rel => exact ⟨1, by go_num, by omega, hbel.trans (hh.mono (by omega))⟩
      · obtain ⟨k1, rfl⟩ : ∃ k1, k = k1 + 1 := ⟨k - 1, by omega⟩
        obtain ⟨d0, d1, d2, d3⟩ := cells_at HO1.out (show k1 < m by omega) (flatV_at (by omega))
        obtain ⟨u, hu⟩ : ∃ u, u = (varsT t).getD k1 default := ⟨_, rfl⟩
        have huv : u ∈ varsT t := by rw [hu, getD_at (by omega)]; exact List.getElem_mem _
        have huo := vin_var t (mem_varsT.1 huv)
        have hcmp : cmp u y < 0 := by
          rw [hu, hy, getD_at (show k1 < (varsT t).length by omega), getD_at (show k1 + 1 < (varsT t).length by omega)]
          exact List.pairwise_iff_getElem.1 (asc_varsT t) k1 (k1 + 1) (by omega) (by omega) (by omega)
        rw [← hu] at d0 d1 d2
        rw [huo.1] at d0
        have HCM := Lib.hid (fun W' (_ : Below wr.heap.size wr W') => scmp_any (n := 1) (m := 1) (lo := 0) (lo' := 0) u y (.slice none 0 0) (.slice none 0 0) W' (by rw [huo.2]; exact HasR.nil _ _ _ (by unfold maxLen; omega) _) (by rw [hyo.2]; exact HasR.nil _ _ _ (by unfold maxLen; omega) _))
        obtain ⟨c, hc⟩ : ∃ c, c = cmp u y := ⟨_, rfl⟩
        rw [← hc] at HCM hcmp
        rw [huo.1, hyo.1] at HCM
        have n1 : decide (0 ≤ c) = false := decide_eq_false (by omega)
        have n2 : ¬ 0 ≤ c := by omega
        have r0 : ∀ t : BoxC (Below wr.heap.size wr), t.W.cell? ⟨g, (k1 + 1) * 4, none⟩ = some (.int .i64 (-1)) := fun t => t.cell c0 hgr
        have r1 : ∀ t : BoxC (Below wr.heap.size wr), t.W.cell? ⟨g, (k1 + 1) * 4 + 1, none⟩ = some (.string (bstr y.name)) := fun t => t.cell c1 hgr
        have r2 : ∀ t : BoxC (Below wr.heap.size wr), t.W.cell? ⟨g, (k1 + 1) * 4 + 2, none⟩ = some (.int .i64 y.sort) := fun t => t.cell c2 hgr
        have r3 : ∀ t : BoxC (Below wr.heap.size wr), t.W.cell? ⟨g, (k1 + 1) * 4 + 3, none⟩ = some (.slice none 0 0) := fun t => t.cell c3 hgr
        have v0 : ∀ t : BoxC (Below wr.heap.size wr), t.W.cell? ⟨g, k1 * 4, none⟩ = some (.int .i64 (-1)) := fun t => t.cell d0 hgr
        have v1 : ∀ t : BoxC (Below wr.heap.size wr), t.W.cell? ⟨g, k1 * 4 + 1, none⟩ = some (.string (bstr u.name)) := fun t => t.cell d1 hgr
        have v2 : ∀ t : BoxC (Below wr.heap.size wr), t.W.cell? ⟨g, k1 * 4 + 2, none⟩ = some (.int .i64 u.sort) := fun t => t.cell d2 hgr
        have v3 : ∀ t : BoxC (Below wr.heap.size wr), t.W.cell? ⟨g, k1 * 4 + 3, none⟩ = some (.slice none 0 0) := fun t => t.cell d3 hgr
        have i3 : (0 : Int) ≤ (k1 : Int) := by omega
        have i4 : (k1 : Int) < (m : Int) := by omega
        have i5 : IntKind.i64.wrap ((k1 : Int) + 1 - 1) = (k1 : Int) := by rw [IntWalk.i64_in _ (by omega)]; omega
        have i6 : IntKind.i64.wrap (k1 : Int) = (k1 : Int) := IntWalk.i64_in _ (by omega)
        have i7 : decide ((0 : Int) < (k1 : Int) + 1) = true := decide_eq_true (by omega)
        clear hln hy hyv hyo hyt hu huv huo hc hcmp c0 c1 c2 c3 d0 d1 d2 d3 HHA HGR HSO HOX
        go_wp2_with fail
        refine region_boxC (C := Below wr.heap.size wr) (by kernel_rfl) (by kernel_rfl) (Below.refl _ _).drew ?_
        repeat (go_big_quiet_step (first | (go_at_call 16; exact (HOK.out _ (BoxC.h _)).mono (fun _ _ h => ⟨h.1, BoxC.step _ h.2⟩)) | (go_at_call 17; exact (HCM.out _ (BoxC.h _)).mono (fun _ _ h => ⟨h.1, BoxC.step _ h.2⟩))))
        refine wpQuiet_nil ?_
        rintro w5 ⟨t5, rfl⟩
        have hh := t5.h
        clear r0 r1 r2 r3 v0 v1 v2 v3 a0 a1 a2 a3 b0 b1 b2 b3
        go_wp2
        go_roundw
        case measure => simp [intOf]; omega
        case rel => exact ⟨k1 + 1 + 1, by go_num, by omega, hbel.trans (hh.mono (by omega))⟩
    · have HOY := Lib.hid (fun W' (hW' : Below wr.heap.size wr W') => HOX.out W' (HBW.out.trans (hW'.mono HBW.out.size)))
      have HSY := Lib.hid (fun W' (hW' : Below wr.heap.size wr W') => HSO.out W' (HBW.out.trans (hW'.mono HBW.out.size)))
      have HGY := Lib.hid (fun W' (hW' : Below wr.heap.size wr W') => HGR.out W' (HBW.out.trans (hW'.mono HBW.out.size)))
      have HHY := Lib.hid (fun (hx1 : x.op = -1) (hx2 : x.args = []) W' (hW' : Below wr.heap.size wr W') => (any_has rfl HT.out.2.2.1 hx1 hx2).trans HZ.out.symm ▸ HHA.out W' (HBW.out.trans (hW'.mono HBW.out.size)) (.inr (own_mono (own_below HO1.out hW') (Nat.zero_le _))))
      obtain rfl : gr = ((m : Int) == 0) := HGV.out
      clear HHA HOX HSO HGR HOC HGV
      by_cases h1 : xo = -1
      · subst h1
        by_cases h2 : xl = 0
        · subst h2
          have HHZ := Lib.hid (HHY.out HXX.out.1.symm (List.eq_nil_of_length_eq_zero HXX.out.2.symm))
          clear HHY
          go_wp2_with fail
          refine region_boxC (C := Below wr.heap.size wr) (by kernel_rfl) (by kernel_rfl) (Below.refl _ _).drew ?_
          repeat (go_big_quiet_step (first | (go_at_call 16; exact (HOY.out _ (BoxC.h _)).mono (fun _ _ h => ⟨h.1, BoxC.step _ h.2⟩)) | (go_at_call 13; exact (HHZ.out _ (BoxC.h _)).mono (fun _ _ h => ⟨h.1, BoxC.step _ h.2⟩))))
          refine wpQuiet_nil ?_
          rintro w5 ⟨t5, rfl⟩
          go_wp2_with fail
          refine region_boxC (C := Below wr.heap.size wr) (by kernel_rfl) (by kernel_rfl) (BoxC.h t5).drew ?_
          repeat (go_big_quiet_step (first | (go_at_call 16; exact (HOY.out _ (BoxC.h _)).mono (fun _ _ h => ⟨h.1, BoxC.step _ h.2⟩)) | (go_at_call 19; exact (HSY.out _ (BoxC.h _)).mono (fun _ _ h => ⟨h.1, BoxC.step _ h.2⟩)) | (go_at_call 18; exact (HGY.out _ (BoxC.h _)).mono (fun _ _ h => ⟨h.1, BoxC.step _ h.2⟩))))
          refine wpQuiet_nil ?_
          rintro w6 ⟨t6, rfl⟩
          have hh6 := t6.h
          clear a0 a1 a2 a3 b0 b1 b2 b3
          go_wp2
          go_ret
          exact ⟨rfl, HB1.out.trans ((HBW.out.trans (hh6.mono HBW.out.size)).mono HB1.out.size)⟩
        · have e1 : ((xl : Int) == 0) = false := by simp; omega
          have e2 : decide ((xl : Int) = 0) = false := decide_eq_false (by omega)
          clear HHY
          go_wp2_with fail
          refine region_boxC (C := Below wr.heap.size wr) (by kernel_rfl) (by kernel_rfl) (Below.refl _ _).drew ?_
          repeat (go_big_quiet_step (fail))
          refine wpQuiet_nil ?_
          rintro w5 ⟨t5, rfl⟩
          go_wp2_with fail
          refine region_boxC (C := Below wr.heap.size wr) (by kernel_rfl) (by kernel_rfl) (BoxC.h t5).drew ?_
          repeat (go_big_quiet_step (first | (go_at_call 16; exact (HOY.out _ (BoxC.h _)).mono (fun _ _ h => ⟨h.1, BoxC.step _ h.2⟩)) | (go_at_call 19; exact (HSY.out _ (BoxC.h _)).mono (fun _ _ h => ⟨h.1, BoxC.step _ h.2⟩)) | (go_at_call 18; exact (HGY.out _ (BoxC.h _)).mono (fun _ _ h => ⟨h.1, BoxC.step _ h.2⟩))))
          refine wpQuiet_nil ?_
          rintro w6 ⟨t6, rfl⟩
          have hh6 := t6.h
          clear a0 a1 a2 a3 b0 b1 b2 b3
          go_wp2
          go_ret
          exact ⟨rfl, HB1.out.trans ((HBW.out.trans (hh6.mono HBW.out.size)).mono HB1.out.size)⟩
      · have e1 : (xo == (-1 : Int)) = false := by simpa using h1
        have e2 : decide (xo = -1) = false := decide_eq_false h1
        clear HHY
        go_wp2_with fail
        refine region_boxC (C := Below wr.heap.size wr) (by kernel_rfl) (by kernel_rfl) (Below.refl _ _).drew ?_
        repeat (go_big_quiet_step (fail))
        refine wpQuiet_nil ?_
        rintro w5 ⟨t5, rfl⟩
        go_wp2_with fail
        refine region_boxC (C := Below wr.heap.size wr) (by kernel_rfl) (by kernel_rfl) (BoxC.h t5).drew ?_
        repeat (go_big_quiet_step (first | (go_at_call 16; exact (HOY.out _ (BoxC.h _)).mono (fun _ _ h => ⟨h.1, BoxC.step _ h.2⟩)) | (go_at_call 19; exact (HSY.out _ (BoxC.h _)).mono (fun _ _ h => ⟨h.1, BoxC.step _ h.2⟩)) | (go_at_call 18; exact (HGY.out _ (BoxC.h _)).mono (fun _ _ h => ⟨h.1, BoxC.step _ h.2⟩))))
        refine wpQuiet_nil ?_
        rintro w6 ⟨t6, rfl⟩
        have hh6 := t6.h
        clear a0 a1 a2 a3 b0 b1 b2 b3
        go_wp2
        go_ret
        exact ⟨rfl, HB1.out.trans ((HBW.out.trans (hh6.mono HBW.out.size)).mono HB1.out.size)⟩
set_option maxRecDepth 100000 in
theorem walk {H : Type} {enc : TypeId × Value → H} {W : World} {base : Nat} {v : Value} {d : DataW H} {p : List MemPlace}
    (hval : Value.okWide Try.prog W .any base 22 v) (hd : DataW.Trod enc Try.prog W 0 (fun _ => true) true 22 v d p) (_hlt : ∀ x ∈ p, x.block < W.heap.size) :
    Calls Try.prog 4 #[v] W fun e w' => e = .returned (.bool true) ∧ Below W.heap.size W w' := by
  obtain ⟨A, n, cap, rfl, hn, hc⟩ := code_open hval hd
  exact go W hn hc
end Go.Proofs.Ytejmfiocdecigaa.fnVariables
