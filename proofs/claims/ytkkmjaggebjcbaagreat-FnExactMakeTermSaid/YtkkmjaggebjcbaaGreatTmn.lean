/-
 THE MODEL's MakeTerm.
-/
import Derived.Test.YtkkmjaggebjcbaaGreatTml
import Derived.Test.YtkkmjaggebjcbaaGreatPk10
import Derived.Test.YtkkmjaggebjcbaaGreatPk13
import Derived.Test.YtkkmjaggebjcbaaGreatSigb
namespace Go.Proofs.YtkkmjaggebjcbaaGreat.tmn
open Go.ChangeShapes Go.WideShapes Go.ChangeAt Go.RowKit
open mem dec setm sets sortm sortn sortp sorti sortf sortu sortg sigm sigs sigt sigl sigb rowl trm trmv terml termb termt termx termz termro termsd termv termvr termvo termev frm termlm sigi sigj sigk gram gramo graml gramk gramc gramn gramt grami formlf formnd formk formr formf formt formm termcl tma tmm tmr tsk tmb tmf tmg tmc tmi tml

theorem lim_of {P : List (List UInt8)} {Q : List (Int × Int)} {O : List OpM} (hok : sigOk P Q O = true) {t : TermM} (h : FormS P Q O t) (hs : size t ≤ 60 ∧ depth t ≤ 20) : LimT t := ⟨hs.1, hs.2, ((all_iff hok t).2 h).1⟩
set_option maxRecDepth 50000 in
set_option maxHeartbeats 8000000 in
/-- spec.MakeTerm -/
theorem sMake_any {N lo : Nat} (P : List (List UInt8)) (Q : List (Int × Int)) (O : List OpM) (va vb vc : Value) (op : Int) (hop : I64 op) (L : List TermM) (ve : Value) (w : World) (h : HasG w va vb vc P Q O) (ht : HasTs (N + 1) lo w ve L) (hsz : sizes L ≤ 1048576) (z : Bool) (hz : z = true ↔ MakeOk P Q O op L) :
  Calls Tryz.prog 8 #[.agg #[va, vb, vc], .int .i64 op, ve] w fun e w' => ∃ v', e = .returned (.tuple #[aggT (makeT O op L z) v', .bool z]) ∧ HasTs (N + 1) w.heap.size w' v' (makeT O op L z).args ∧ Below w.heap.size w w' := by
 obtain ⟨sb, hsb⟩ : ∃ b, sigOk P Q O = b := ⟨_, rfl⟩
 have HSI := Lib.hid (fun W (hW : Below w.heap.size w W) => sIsSig_any P Q O va vb vc sb hsb W (h.below (Nat.le_refl _) hW))
 have HIN : Hid (∀ r, inI op 0 ((O.length : Int) - 1) = r → ∀ W, Calls Tryz.prog 32 #[.int .i64 op, .int .i64 0, .int .i64 ((O.length : Int) - 1)] W fun e w' => e = .returned (.bool r) ∧ W = w') := Lib.hid (fun r hr W => l1In_any op 0 ((O.length : Int) - 1) r hr W)
 have HSM : Hid (∀ W (t : TermM) (vt : Value) n' lo', HasTs n' lo' W vt t.args → sizes t.args ≤ 1048576 → Calls Tryz.prog 33 #[aggT t vt] W fun e w' => ∃ r, e = .returned (.bool r) ∧ (r = true ↔ size t ≤ 60 ∧ depth t ≤ 20) ∧ Below W.heap.size W w') := Lib.hid (fun W t vt n' lo' hx hs => small_any t vt W hx hs)
 have HFO : Hid (sb = true → ∀ W (t : TermM) (vt : Value) n' lo', Below w.heap.size w W → HasTs n' lo' W vt t.args → Bnd t → sizes t.args ≤ 1048576 → ∃ fb : Bool, (fb = true ↔ FormS P Q O t) ∧ Calls Tryz.prog 34 #[.agg #[va, vb, vc], aggT t vt] W fun e w' => e = .returned (.bool fb) ∧ Below W.heap.size W w') := Lib.hid (fun hs W t vt n' lo' hW hx hB hsz => by
  obtain ⟨fb, hfb⟩ : ∃ b : Bool, b = true ↔ FormS P Q O t := by
   by_cases hq : FormS P Q O t
   ·exact ⟨true, fun _ => hq, fun _ => rfl⟩
   ·exact ⟨false, fun e => absurd e (by simp), fun e => absurd e hq⟩
  exact ⟨fb, hfb, form_all P Q O (hsb.trans hs) n' va vb vc t vt W lo' (h.below (Nat.le_refl _) hW) hx hB hsz fb hfb⟩)
 have HMK : Hid (sb = true → (0 ≤ op ∧ op < O.length) → (∀ a ∈ L, FormS P Q O a ∧ LimT a) → ∀ W, Below w.heap.size w W → Calls Tryz.prog 35 #[.agg #[va, vb, vc], .int .i64 op, ve] W fun e w' => ∃ t' v', e = .returned (.tuple #[aggT t' v', .bool z]) ∧ (z = true → t' = formO O op.toNat L) ∧ HasTs (N + 1) W.heap.size w' v' t'.args ∧ Below W.heap.size W w') := Lib.hid (fun hs hr hL W hW => by
  obtain ⟨k, rfl⟩ : ∃ k : Nat, op = (k : Int) := ⟨op.toNat, by omega⟩
  exact sl6Make_any P Q O (hsb.trans hs) va vb vc k (by omega) L ve W (h.below (Nat.le_refl _) hW) (ht.below (Nat.le_refl _) hW) hL hsz z (by
   rw [hz]
   unfold MakeOk
   rw [Int.toNat_natCast]
   exact ⟨fun h => h.2.2.2, fun h => ⟨hsb.trans hs, hr, hL, h⟩⟩))
 have HLI : Hid (sb = true → ∀ t, FormS P Q O t → (size t ≤ 60 ∧ depth t ≤ 20) → LimT t) := Lib.hid (fun hs t hf hl => lim_of (hsb.trans hs) hf hl)
 have HZ : Hid (z = true → sb = true ∧ (0 ≤ op ∧ op < O.length) ∧ ∀ a ∈ L, FormS P Q O a ∧ LimT a) := Lib.hid (fun h => by
  obtain ⟨h1, h2, h3, _⟩ := hz.1 h
  exact ⟨hsb.symm.trans h1, h2, h3⟩)
 have HTR : Hid (z = true → makeT O op L z = formO O op.toNat L) := Lib.hid (fun h => by unfold makeT orZ; rw [if_pos h])
 have HTF : Hid (z = false → makeT O op L z = zT) := Lib.hid (fun h => by unfold makeT orZ; rw [if_neg (by rw [h]; simp)])
 obtain ⟨A1, c1, A2, c2, A3, c3, rfl, rfl, rfl, _⟩ := h.shape
 obtain ⟨m1, hm1⟩ : ∃ q, q = P.length := ⟨_, rfl⟩
 obtain ⟨m2, hm2⟩ : ∃ q, q = Q.length := ⟨_, rfl⟩
 obtain ⟨m3, hm3⟩ : ∃ q, q = O.length := ⟨_, rfl⟩
 rw [← hm1, ← hm2, ← hm3] at HSI HFO HMK ⊢
 rw [← hm3] at HIN HZ
 obtain ⟨m, hm⟩ : ∃ m, m = L.length := ⟨_, rfl⟩
 obtain ⟨B, cB, rfl, _⟩ := HasR.shape ht hm.symm
 have hml := sizes_len L
 have hm20 : m ≤ 1048576 := by omega
 have hm30 : m3 ≤ 9223372036854775807 := by rw [hm3]; exact h.o.len.2.1
 have HH := Lib.hid ht
 have HMM := Lib.hid hm
 have HSZ := Lib.hid hsz
 have HOP := Lib.hid hop
 obtain ⟨mt, hmt⟩ : ∃ t, t = makeT O op L z := ⟨_, rfl⟩
 rw [← hmt] at HTR HTF ⊢
 obtain ⟨ff, hff⟩ : ∃ t, t = formO O op.toNat L := ⟨_, rfl⟩
 rw [← hff] at HTR HMK
 clear h ht hsz hz hm1 hm2 hm3 hml hm hop hmt hff hsb
 obtain ⟨W, hW⟩ : ∃ W, W = (w.alloc (.cells #[.slice A1 m1 c1, .slice A2 m2 c2, .slice A3 m3 c3] 42)).alloc (.cells #[.int .i64 0, .string { data := #[] }, .int .i64 0, .slice none 0 0] 34) := ⟨_, rfl⟩
 have hb0 : Below w.heap.size w W := by
  rw [hW]
  repeat (first | exact Below.refl _ _ | refine Below.alloc ?_ (by first | (simp; done) | (simp; omega)) _)
 have hz0 : W.heap.size = w.heap.size + 2 := by rw [hW]; simp
 have hY0 : W.heap[w.heap.size + 1]? = some (.cells #[.int .i64 0, .string { data := #[] }, .int .i64 0, .slice none 0 0] 34 (0, 0)) := by rw [hW]; exact termt.heap_at _ _ _ (by simp)
 have hX0 : W.heap[w.heap.size]? = some (.cells #[.slice A1 m1 c1, .slice A2 m2 c2, .slice A3 m3 c3] 42 (0, 0)) := by rw [hW]; exact tsl.heap2a _ _ _
 have HB0 := Lib.hid hb0
 obtain ⟨x0, x1, x2⟩ := tsl.box3 hX0
 go_enter Tryz.func8, Tryz.ntmps8
 go_wp2_with fail
 rw [← hW]
 clear hW
 refine (HSI.out _ HB0.out).mono ?_
 rintro e w1 ⟨rfl, hb1⟩
 have HW2 : Hid (∀ w3, Below w1.heap.size w1 w3 → w1.heap.size ≤ w3.heap.size ∧ Below w.heap.size w w3 ∧ (w3.cell? ⟨w.heap.size, 0, none⟩ = some (.slice A1 m1 c1) ∧ w3.cell? ⟨w.heap.size, 1, none⟩ = some (.slice A2 m2 c2) ∧ w3.cell? ⟨w.heap.size, 2, none⟩ = some (.slice A3 m3 c3)) ∧ (w3.cell? ⟨w.heap.size + 1, 0, none⟩ = some (.int .i64 0) ∧ w3.cell? ⟨w.heap.size + 1, 1, none⟩ = some (.string { data := #[] }) ∧ w3.cell? ⟨w.heap.size + 1, 2, none⟩ = some (.int .i64 0) ∧ w3.cell? ⟨w.heap.size + 1, 3, none⟩ = some (.slice none 0 0)) ∧
   (w3.frozen? ⟨w.heap.size + 1, 0, none⟩ = false ∧ w3.frozen? ⟨w.heap.size + 1, 1, none⟩ = false ∧ w3.frozen? ⟨w.heap.size + 1, 2, none⟩ = false ∧ w3.frozen? ⟨w.heap.size + 1, 3, none⟩ = false)) := Lib.hid (fun w3 h3 => by
  have h9 := hb1.trans (h3.mono hb1.size)
  have h4 := (h9.block _ (by omega)).trans hX0
  have h5 := (h9.block _ (by omega)).trans hY0
  exact ⟨h3.size, HB0.out.trans (h9.mono HB0.out.size), ⟨cell_of_row w3 _ 0 _ _ _ h4, cell_of_row w3 _ 1 _ _ _ h4, cell_of_row w3 _ 2 _ _ _ h4⟩, ⟨cell_of_row w3 _ 0 _ _ _ h5, cell_of_row w3 _ 1 _ _ _ h5, cell_of_row w3 _ 2 _ _ _ h5, cell_of_row w3 _ 3 _ _ _ h5⟩, ⟨frozen_of_row w3 _ 0 _ _ h5, frozen_of_row w3 _ 1 _ _ h5, frozen_of_row w3 _ 2 _ _ h5, frozen_of_row w3 _ 3 _ _ h5⟩⟩)
 have hw01 : w.heap.size + 2 ≤ w1.heap.size := by have := hb1.size; omega
 have HFF : Hid (z = false → ∀ w3, Below w1.heap.size w1 w3 → ∀ u0 u1 u2 u3, ∃ v', (Ending.returned (.tuple #[.agg #[.int .i64 0, .string { data := #[] }, .int .i64 0, .slice none 0 0], .bool false])) = .returned (.tuple #[aggT mt v', .bool z]) ∧ HasTs (N + 1) w.heap.size (set4 w3 (w.heap.size + 1) u0 u1 u2 u3) v' mt.args ∧ Below w.heap.size w (set4 w3 (w.heap.size + 1) u0 u1 u2 u3)) := Lib.hid (fun hz w3 h3 u0 u1 u2 u3 => by
  refine ⟨.slice none 0 0, by rw [HTF.out hz, hz]; rfl, ?_, set4_belowB (HW2.out w3 h3).2.1 (by omega) _ _ _ _⟩
  rw [HTF.out hz]
  exact HasR.nil _ _ _ (by unfold maxLen; omega) _)
 clear hb1 hX0 hY0 hz0 hb0 x0 x1 x2 HTF HSI
 cases sb with
 | false =>
  have HFN := Lib.hid (HFF.out (by cases hzz : z with
   | false => rfl
   | true => exact absurd (HZ.out hzz).1 (by simp)) w1 (Below.refl _ _))
  obtain ⟨_, _, _, ⟨z0, z1, z2, z3⟩, ⟨q0, q1, q2, q3⟩⟩ := HW2.out w1 (Below.refl _ _)
  go_wp2
  refine bodyPost_ret (v := .tuple #[.agg #[.int .i64 0, .string { data := #[] }, .int .i64 0, .slice none 0 0], .bool false]) (by simp [results, Tryz.results8, go_sem, z0, z1, z2, z3]) rfl ?_
  exact HFN.out _ _ _ _
 | true =>
  obtain ⟨ri, hri⟩ : ∃ r, inI op 0 ((m3 : Int) - 1) = r := ⟨_, rfl⟩
  have HRI : Hid (ri = true ↔ 0 ≤ op ∧ op < m3) := Lib.hid (by rw [← hri]; unfold inI; rw [decide_eq_true_eq]; omega)
  have HCI := Lib.hid (HIN.out ri hri)
  clear hri
  obtain ⟨_, _, ⟨x0, x1, x2⟩, ⟨z0, z1, z2, z3⟩, ⟨q0, q1, q2, q3⟩⟩ := HW2.out w1 (Below.refl _ _)
  go_wp2_with fail
  refine (HCI.out _).mono ?_
  rintro e w2 ⟨rfl, rfl⟩
  cases ri with
  | false =>
   have HFN := Lib.hid (HFF.out (by cases hzz : z with
    | false => rfl
    | true => exact absurd (HRI.out.2 (HZ.out hzz).2.1) (by simp)) w1 (Below.refl _ _))
   clear x0 x1 x2
   go_wp2
   refine bodyPost_ret (v := .tuple #[.agg #[.int .i64 0, .string { data := #[] }, .int .i64 0, .slice none 0 0], .bool false]) (by simp [results, Tryz.results8, go_sem, z0, z1, z2, z3]) rfl ?_
   exact HFN.out _ _ _ _
  | true =>
   have HR0 := Lib.hid (HRI.out.1 (by trivial))
   clear x0 x1 x2 z0 z1 z2 z3 q0 q1 q2 q3 HCI HRI HIN
   go_wp2
   go_loopw [8] (fun v17 wr => ∃ j : Nat, v17 = .int .i64 j ∧ j ≤ m ∧ Hid (∀ i, i < j → FormS P Q O (L.getD i default) ∧ LimT (L.getD i default)) ∧ Hid (Below w1.heap.size w1 wr)) (fun i _ => m - (intOf i).toNat)
   case atStart => exact ⟨0, rfl, Nat.zero_le _, Lib.hid (fun i hi => absurd hi (Nat.not_lt_zero _)), Lib.hid (Below.refl _ _)⟩
   case round =>
    obtain ⟨j, rfl, hj, HALL, HB⟩ := hrel
    by_cases hlt : j < m
    ·have d1 : decide ((j : Int) < (m : Int)) = true := decide_eq_true (by omega)
     obtain ⟨kn, g, o, B2, cx, hNk, rfl, _, hg, f0, f1, f2, f3, hxx, hbx⟩ := term_at HH.out hlt
     obtain rfl : N = kn := by omega
     obtain ⟨hr1, hr2, ⟨x0, x1, x2⟩, ⟨z0, z1, z2, z3⟩, ⟨q0, q1, q2, q3⟩⟩ := HW2.out wr HB.out
     rw [← hr2.cell (p := ⟨g, o + j * 4, none⟩) hg] at f0
     rw [← hr2.cell (p := ⟨g, o + j * 4 + 1, none⟩) hg] at f1
     rw [← hr2.cell (p := ⟨g, o + j * 4 + 2, none⟩) hg] at f2
     rw [← hr2.cell (p := ⟨g, o + j * 4 + 3, none⟩) hg] at f3
     have hxr := hxx.below (Nat.le_refl _) hr2
     have hjL : j < L.length := by have := HMM.out; omega
     have hsx : sizes (L.getD j default).args ≤ 1048576 := by
      have h9 := size_le_sizes hjL
      have h10 := termro.size_eq (L.getD j default)
      have := HSZ.out
      omega
     have hmem : L.getD j default ∈ L := by rw [getD_at hjL]; exact List.getElem_mem _
     obtain ⟨x, hx⟩ : ∃ x, x = L.getD j default := ⟨_, rfl⟩
     have HXD := Lib.hid hx
     rw [← hx] at f0 f1 f2 f3 hxr hbx hsx hmem
     have HMEM := Lib.hid hmem
     obtain ⟨rs, hrs⟩ : ∃ b : Bool, b = true ↔ (size x ≤ 60 ∧ depth x ≤ 20) := ⟨decide (size x ≤ 60 ∧ depth x ≤ 20), decide_eq_true_iff⟩
     obtain ⟨fx, hfx⟩ : ∃ b : Bool, b = true ↔ FormS P Q O x := by
      by_cases hq : FormS P Q O x
      ·exact ⟨true, fun _ => hq, fun _ => rfl⟩
      ·exact ⟨false, fun e => absurd e (by simp), fun e => absurd e hq⟩
     have HC1 : Hid (∀ t : BoxC (Below wr.heap.size wr), Calls Tryz.prog 33 #[aggT x (.slice B2 x.args.length cx)] t.W fun e w' => e = .returned (.bool rs) ∧ Below t.W.heap.size t.W w') := Lib.hid (fun t => (HSM.out t.W x (.slice B2 x.args.length cx) _ _ (hxr.below (Nat.le_refl _) t.h) hsx).mono (by
      rintro e w' ⟨r, rfl, h1, h2⟩
      exact ⟨by rw [Bool.eq_iff_iff.2 (h1.trans hrs.symm)], h2⟩))
     have HC2 : Hid (∀ t : BoxC (Below wr.heap.size wr), Calls Tryz.prog 34 #[.agg #[.slice A1 m1 c1, .slice A2 m2 c2, .slice A3 m3 c3], aggT x (.slice B2 x.args.length cx)] t.W fun e w' => e = .returned (.bool fx) ∧ Below t.W.heap.size t.W w') := Lib.hid (fun t => by
      obtain ⟨fb, h1, h2⟩ := HFO.out (by trivial) t.W x (.slice B2 x.args.length cx) _ _ (hr2.trans (t.h.mono hr2.size)) (hxr.below (Nat.le_refl _) t.h) hbx hsx
      rw [← Bool.eq_iff_iff.2 (h1.trans hfx.symm)]
      exact h2)
     unfold aggT at HC1 HC2
     obtain ⟨xl, hxl⟩ : ∃ xl, xl = x.args.length := ⟨_, rfl⟩
     rw [← hxl] at f3 HC1 HC2
     have kV : ∀ {g y : Nat} {v : Value}, wr.cell? ⟨g, y, none⟩ = some v → ∀ t : BoxC (Below wr.heap.size wr), t.W.cell? ⟨g, y, none⟩ = some v := fun {g y v} h t => t.cell h (block_lt_of_cell h)
     have b0 := kV x0
     have b1 := kV x1
     have b2 := kV x2
     have b4 := kV f0
     have b5 := kV f1
     have b6 := kV f2
     have b7 := kV f3
     have nb : Nonempty (BoxC (Below wr.heap.size wr)) := ⟨⟨_, Below.refl _ _⟩⟩
     have i1 : (0 : Int) ≤ (j : Int) := by omega
     have i2 : (j : Int) < (m : Int) := by omega
     have HRS := Lib.hid hrs
     have HFX := Lib.hid hfx
     have HBT : Hid (∀ t : BoxC (Below wr.heap.size wr), Below w1.heap.size w1 t.W) := Lib.hid (fun t => HB.out.trans (t.h.mono hr1))
     clear hNk hr2 hxx hxr hbx hsx hx hxl hmem hrs hfx kV x0 x1 x2 z0 z1 z2 z3 q0 q1 q2 q3 f0 f1 f2 f3
     cases rs with
     | false =>
      have HNZ : Hid (z = false) := Lib.hid (by cases hzz : z with
       | false => rfl
       | true => exact absurd (HRS.out.2 ⟨((HZ.out hzz).2.2 x HMEM.out).2.1, ((HZ.out hzz).2.2 x HMEM.out).2.2.1⟩) (by simp))
      go_wp2_with fail
      refine region_boxC (C := Below wr.heap.size wr) (by kernel_rfl) (by kernel_rfl) (Below.refl _ _).drew ?_
      repeat (first | go_big_quiet_step ((go_at_call 33; exact (HC1.out _).mono (fun _ _ h => ⟨h.1, BoxC.step _ h.2⟩))) | go_big_quiet_step ((go_at_call 34; exact (HC2.out _).mono (fun _ _ h => ⟨h.1, BoxC.step _ h.2⟩))))
      refine wpQuiet_nil ?_
      rintro w5 ⟨t5, rfl⟩
      have HFN := Lib.hid (HFF.out HNZ.out t5.W (HBT.out t5))
      obtain ⟨_, _, _, ⟨z0, z1, z2, z3⟩, ⟨q0, q1, q2, q3⟩⟩ := HW2.out t5.W (HBT.out t5)
      clear b0 b1 b2 b4 b5 b6 b7 nb HC1 HC2
      go_wp2
      refine bodyPost_ret (v := .tuple #[.agg #[.int .i64 0, .string { data := #[] }, .int .i64 0, .slice none 0 0], .bool false]) (by simp [results, Tryz.results8, go_sem, z0, z1, z2, z3]) rfl ?_
      exact HFN.out _ _ _ _
     | true =>
      cases fx with
      | false =>
       have HNZ : Hid (z = false) := Lib.hid (by cases hzz : z with
        | false => rfl
        | true => exact absurd (HFX.out.2 ((HZ.out hzz).2.2 x HMEM.out).1) (by simp))
       go_wp2_with fail
       refine region_boxC (C := Below wr.heap.size wr) (by kernel_rfl) (by kernel_rfl) (Below.refl _ _).drew ?_
       repeat (first | go_big_quiet_step ((go_at_call 33; exact (HC1.out _).mono (fun _ _ h => ⟨h.1, BoxC.step _ h.2⟩))) | go_big_quiet_step ((go_at_call 34; exact (HC2.out _).mono (fun _ _ h => ⟨h.1, BoxC.step _ h.2⟩))))
       refine wpQuiet_nil ?_
       rintro w5 ⟨t5, rfl⟩
       have HFN := Lib.hid (HFF.out HNZ.out t5.W (HBT.out t5))
       obtain ⟨_, _, _, ⟨z0, z1, z2, z3⟩, ⟨q0, q1, q2, q3⟩⟩ := HW2.out t5.W (HBT.out t5)
       clear b0 b1 b2 b4 b5 b6 b7 nb HC1 HC2
       go_wp2
       refine bodyPost_ret (v := .tuple #[.agg #[.int .i64 0, .string { data := #[] }, .int .i64 0, .slice none 0 0], .bool false]) (by simp [results, Tryz.results8, go_sem, z0, z1, z2, z3]) rfl ?_
       exact HFN.out _ _ _ _
      | true =>
       have HALL2 : Hid (∀ i, i < j + 1 → FormS P Q O (L.getD i default) ∧ LimT (L.getD i default)) := Lib.hid (fun i hi => by
        by_cases e : i = j
        ·subst e; rw [← HXD.out]; exact ⟨HFX.out.1 (by trivial), HLI.out (by trivial) x (HFX.out.1 (by trivial)) (HRS.out.1 (by trivial))⟩
        ·exact HALL.out i (by omega))
       go_wp2_with fail
       refine region_boxC (C := Below wr.heap.size wr) (by kernel_rfl) (by kernel_rfl) (Below.refl _ _).drew ?_
       repeat (first | go_big_quiet_step ((go_at_call 33; exact (HC1.out _).mono (fun _ _ h => ⟨h.1, BoxC.step _ h.2⟩))) | go_big_quiet_step ((go_at_call 34; exact (HC2.out _).mono (fun _ _ h => ⟨h.1, BoxC.step _ h.2⟩))))
       refine wpQuiet_nil ?_
       rintro w5 ⟨t5, rfl⟩
       have HB4 := Lib.hid (HBT.out t5)
       clear b0 b1 b2 b4 b5 b6 b7 nb HC1 HC2
       go_wp2
       go_roundw
       case rel => exact ⟨j + 1, by go_num, by omega, HALL2, HB4⟩
       case measure => simp [intOf]; omega
    ·have d1 : decide ((j : Int) < (m : Int)) = false := decide_eq_false (by omega)
     have HAA : Hid (∀ a ∈ L, FormS P Q O a ∧ LimT a) := Lib.hid (fun a ha => by
      obtain ⟨i, hi, e⟩ := List.getElem_of_mem ha
      have h9 := HALL.out i (by have := HMM.out; omega)
      rw [getD_at hi, e] at h9
      exact h9)
     obtain ⟨hr1, hr2, ⟨x0, x1, x2⟩, ⟨z0, z1, z2, z3⟩, ⟨q0, q1, q2, q3⟩⟩ := HW2.out wr HB.out
     have HC := Lib.hid (HMK.out (by trivial) HR0.out HAA.out wr hr2)
     clear hr2 z0 z1 z2 z3 q0 q1 q2 q3
     go_wp2_with fail
     refine HC.out.mono ?_
     rintro e w5 ⟨t', v', rfl, ht', hv5, hb5⟩
     have HB5 : Hid (Below w1.heap.size w1 w5) := Lib.hid (HB.out.trans (hb5.mono hr1))
     clear x0 x1 x2 HC
     obtain ⟨hr5, hq5, ⟨x0, x1, x2⟩, ⟨z0, z1, z2, z3⟩, ⟨q0, q1, q2, q3⟩⟩ := HW2.out w5 HB5.out
     clear x0 x1 x2
     cases z with
     | false =>
      obtain ⟨A5, c5, rfl, _⟩ := HasR.shape hv5 rfl
      unfold aggT
      obtain ⟨tl, htl⟩ : ∃ q, q = t'.args.length := ⟨_, rfl⟩
      rw [← htl]
      have HFN := Lib.hid (fun ob => HFF.out rfl (w5.alloc ob) (HB5.out.alloc hr5 ob))
      have hall : ∀ ob, ((w5.alloc ob).cell? ⟨w.heap.size + 1, 0, none⟩ = some (.int .i64 0) ∧ (w5.alloc ob).cell? ⟨w.heap.size + 1, 1, none⟩ = some (.string { data := #[] }) ∧ (w5.alloc ob).cell? ⟨w.heap.size + 1, 2, none⟩ = some (.int .i64 0) ∧ (w5.alloc ob).cell? ⟨w.heap.size + 1, 3, none⟩ = some (.slice none 0 0)) ∧
        ((w5.alloc ob).frozen? ⟨w.heap.size + 1, 0, none⟩ = false ∧ (w5.alloc ob).frozen? ⟨w.heap.size + 1, 1, none⟩ = false ∧ (w5.alloc ob).frozen? ⟨w.heap.size + 1, 2, none⟩ = false ∧ (w5.alloc ob).frozen? ⟨w.heap.size + 1, 3, none⟩ = false) := fun ob => (HW2.out _ (HB5.out.alloc hr5 ob)).2.2.2
      have e0 := fun ob => (hall ob).1.1
      have e1 := fun ob => (hall ob).1.2.1
      have e2 := fun ob => (hall ob).1.2.2.1
      have e3 := fun ob => (hall ob).1.2.2.2
      have g0 := fun ob => (hall ob).2.1
      have g1 := fun ob => (hall ob).2.2.1
      have g2 := fun ob => (hall ob).2.2.2.1
      have g3 := fun ob => (hall ob).2.2.2.2
      have hne5 : w.heap.size + 1 ≠ w5.heap.size := by omega
      clear ht' hv5 hb5 hq5 z0 z1 z2 z3 q0 q1 q2 q3 hall htl
      go_wp2
      refine bodyPost_ret (v := .tuple #[.agg #[.int .i64 0, .string { data := #[] }, .int .i64 0, .slice none 0 0], .bool false]) (by simp [results, Tryz.results8, go_sem, e0, e1, e2, e3]) rfl ?_
      exact HFN.out _ _ _ _ _
     | true =>
      obtain ⟨A5, c5, rfl, hv5'⟩ := HasR.shape hv5 rfl
      have HT' : Hid (mt = t') := Lib.hid ((HTR.out rfl).trans (ht' rfl).symm)
      unfold aggT
      obtain ⟨tq, hto⟩ : ∃ q, q = t'.op := ⟨_, rfl⟩
      obtain ⟨tn, htn⟩ : ∃ q, q = t'.name := ⟨_, rfl⟩
      obtain ⟨ts, hts⟩ : ∃ q, q = t'.sort := ⟨_, rfl⟩
      obtain ⟨tl, htl⟩ : ∃ q, q = t'.args.length := ⟨_, rfl⟩
      have HFN : Hid (∀ ob u0 u1 u2 u3, ∃ v', (Ending.returned (.tuple #[.agg #[.int .i64 tq, .string (bstr tn), .int .i64 ts, .slice A5 tl c5], .bool true])) = .returned (.tuple #[.agg #[.int .i64 mt.op, .string (bstr mt.name), .int .i64 mt.sort, v'], .bool true]) ∧ HasTs (N + 1) w.heap.size (set4 (w5.alloc ob) (w.heap.size + 1) u0 u1 u2 u3) v' mt.args ∧ Below w.heap.size w (set4 (w5.alloc ob) (w.heap.size + 1) u0 u1 u2 u3)) := Lib.hid (fun ob u0 u1 u2 u3 => by
       rw [HT'.out]
       refine ⟨.slice A5 tl c5, by rw [← hto, ← htn, ← hts], ?_, set4_belowB (hq5.alloc (by have := hq5.size; omega) ob) (by omega) _ _ _ _⟩
       rw [htl]
       exact (HasR.kept (RT_steady _) (hv5'.below (RT_steady _) (Nat.le_refl _) ((Below.refl _ _).alloc (Nat.le_refl _) ob)) (set4_kept (by omega) u0 u1 u2 u3)).mono (RT_steady _) (by omega))
      have hall : ∀ ob, ((w5.alloc ob).cell? ⟨w.heap.size + 1, 0, none⟩ = some (.int .i64 0) ∧ (w5.alloc ob).cell? ⟨w.heap.size + 1, 1, none⟩ = some (.string { data := #[] }) ∧ (w5.alloc ob).cell? ⟨w.heap.size + 1, 2, none⟩ = some (.int .i64 0) ∧ (w5.alloc ob).cell? ⟨w.heap.size + 1, 3, none⟩ = some (.slice none 0 0)) ∧
        ((w5.alloc ob).frozen? ⟨w.heap.size + 1, 0, none⟩ = false ∧ (w5.alloc ob).frozen? ⟨w.heap.size + 1, 1, none⟩ = false ∧ (w5.alloc ob).frozen? ⟨w.heap.size + 1, 2, none⟩ = false ∧ (w5.alloc ob).frozen? ⟨w.heap.size + 1, 3, none⟩ = false) := fun ob => (HW2.out _ (HB5.out.alloc hr5 ob)).2.2.2
      have e0 := fun ob => (hall ob).1.1
      have e1 := fun ob => (hall ob).1.2.1
      have e2 := fun ob => (hall ob).1.2.2.1
      have e3 := fun ob => (hall ob).1.2.2.2
      have g0 := fun ob => (hall ob).2.1
      have g1 := fun ob => (hall ob).2.2.1
      have g2 := fun ob => (hall ob).2.2.2.1
      have g3 := fun ob => (hall ob).2.2.2.2
      have hne5 : w.heap.size + 1 ≠ w5.heap.size := by omega
      rw [← hto, ← htn, ← hts, ← htl]
      clear ht' hv5 hv5' hb5 hq5 hto htn hts htl HT' z0 z1 z2 z3 q0 q1 q2 q3 hall
      go_wp2
      refine bodyPost_ret (v := .tuple #[.agg #[.int .i64 tq, .string (bstr tn), .int .i64 ts, .slice A5 tl c5], .bool true]) (by simp [results, Tryz.results8, go_sem, e0, e1, e2, e3]) rfl ?_
      exact HFN.out _ _ _ _ _
end Go.Proofs.YtkkmjaggebjcbaaGreat.tmn
