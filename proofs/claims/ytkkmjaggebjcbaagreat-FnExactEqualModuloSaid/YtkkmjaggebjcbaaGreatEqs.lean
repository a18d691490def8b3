/-
 THE MODEL's CanonicalTerm AND EqualModulo.
-/
import Derived.Test.YtkkmjaggebjcbaaGreatScan
import Derived.Test.YtkkmjaggebjcbaaGreatTermlc
import Derived.Test.YtkkmjaggebjcbaaGreatPk05
namespace Go.Proofs.YtkkmjaggebjcbaaGreat.eqs
open Go.ChangeShapes Go.WideShapes Go.ChangeAt Go.RowKit
open mem dec setm sets sortm sortn sortp sorti sortf sortu sortg sigm sigs sigt sigl sigb rowl trm trmv terml termb termt termx termz termro termsd termv termvr termvo termev termin frm termlm sigi sigj sigk gram gramo graml gramk gramc gramn gramt grami formlf formnd formk formr formf formt formm termcl termlc tma tmm tmr tsk tmb tmf tmg tmc tmi tml tmn rebp rebc scan
/-- the answer -/
def CanA (P : List (List UInt8)) (Q : List (Int × Int)) (O : List OpM) (t : TermM) (w : World) (e : Ending) (w' : World) : Prop :=
 ∃ u vu r, e = .returned (.tuple #[aggT u vu, .bool r]) ∧ (r = true → canG P Q O t = some u) ∧ (r = false → canG P Q O t = none) ∧ HasTs 22 0 w' vu u.args ∧ Below w.heap.size w w'
set_option maxRecDepth 50000 in
set_option maxHeartbeats 8000000 in
/-- spec.CanonicalTerm -/
theorem sCan_any {N lo : Nat} (P : List (List UInt8)) (Q : List (Int × Int)) (O : List OpM) (va vb vc : Value) (t : TermM) (vt : Value) (w : World) (h : HasG w va vb vc P Q O) (ht : HasTs N lo w vt t.args) (hB : Bnd t) (hsz : sizes t.args ≤ 1048576) :
  Calls Tryz.prog 48 #[.agg #[va, vb, vc], aggT t vt] w (CanA P Q O t w) := by
 obtain ⟨sb, hsb⟩ : ∃ b, sigOk P Q O = b := ⟨_, rfl⟩
 have HSI := Lib.hid (fun W (hW : Below w.heap.size w W) => sIsSig_any P Q O va vb vc sb hsb W (h.below (Nat.le_refl _) hW))
 have HCN : Hid (sb = true → ∀ W, Below w.heap.size w W → Calls Tryz.prog 96 #[.agg #[va, vb, vc], aggT t vt] W (CanR P Q O t W)) := Lib.hid (fun hs W hW => canon_all P Q O (hsb.trans hs) N va vb vc t vt W lo (h.below (Nat.le_refl _) hW) (ht.below (Nat.le_refl _) hW) hB hsz)
 have HEQ : Hid (sb = true → canG P Q O t = rebM (nodeS P Q O) t) := Lib.hid (fun hs => (canG_eq (hsb.trans hs) t).1)
 have HNO : Hid (sb = false → canG P Q O t = none) := Lib.hid (fun hs => canG_no (by rw [hsb, hs]; simp) t)
 obtain ⟨A1, c1, A2, c2, A3, c3, rfl, rfl, rfl, _⟩ := h.shape
 obtain ⟨B, cb, rfl, _⟩ := HasR.shape ht rfl
 obtain ⟨m1, hm1⟩ : ∃ q, q = P.length := ⟨_, rfl⟩
 obtain ⟨m2, hm2⟩ : ∃ q, q = Q.length := ⟨_, rfl⟩
 obtain ⟨m3, hm3⟩ : ∃ q, q = O.length := ⟨_, rfl⟩
 rw [← hm1, ← hm2, ← hm3] at HSI HCN ⊢
 unfold aggT at HCN ⊢
 obtain ⟨o1, ho1⟩ : ∃ q, q = t.op := ⟨_, rfl⟩
 obtain ⟨n1, hn1⟩ : ∃ q, q = t.name := ⟨_, rfl⟩
 obtain ⟨s1, hs1⟩ : ∃ q, q = t.sort := ⟨_, rfl⟩
 obtain ⟨l1, hl1⟩ : ∃ q, q = t.args.length := ⟨_, rfl⟩
 rw [← ho1, ← hn1, ← hs1, ← hl1] at HCN ⊢
 clear h ht hB hsz hm1 hm2 hm3 ho1 hn1 hs1 hl1 hsb
 obtain ⟨W0, hW0⟩ : ∃ W0, W0 = (w.alloc (.cells #[.slice A1 m1 c1, .slice A2 m2 c2, .slice A3 m3 c3] 42)).alloc (.cells #[.int .i64 o1, .string (bstr n1), .int .i64 s1, .slice B l1 cb] 34) := ⟨_, rfl⟩
 obtain ⟨W, hW⟩ : ∃ W, W = W0.alloc (.cells #[.int .i64 0, .string { data := #[] }, .int .i64 0, .slice none 0 0] 34) := ⟨_, rfl⟩
 have hz1 : W0.heap.size = w.heap.size + 2 := by rw [hW0]; simp
 have hz0 : W.heap.size = w.heap.size + 3 := by rw [hW]; simp [hz1]
 have hb1 : Below W0.heap.size W0 W := by rw [hW]; exact (Below.refl _ _).alloc (Nat.le_refl _) _
 have hb0 : Below w.heap.size w W := by
  rw [hW, hW0]
  repeat (first | exact Below.refl _ _ | refine Below.alloc ?_ (by first | (simp; done) | (simp; omega)) _)
 have hX0 : W.heap[w.heap.size]? = some (.cells #[.slice A1 m1 c1, .slice A2 m2 c2, .slice A3 m3 c3] 42 (0, 0)) := (hb1.block _ (by omega)).trans (by rw [hW0]; exact tsl.heap2a _ _ _)
 have hT0 : W.heap[w.heap.size + 1]? = some (.cells #[.int .i64 o1, .string (bstr n1), .int .i64 s1, .slice B l1 cb] 34 (0, 0)) := (hb1.block _ (by omega)).trans (by rw [hW0]; exact termt.heap_at _ _ _ (by simp))
 have hY0 : W.heap[w.heap.size + 2]? = some (.cells #[.int .i64 0, .string { data := #[] }, .int .i64 0, .slice none 0 0] 34 (0, 0)) := by rw [hW]; exact termt.heap_at _ _ _ (by omega)
 have HB0 := Lib.hid hb0
 have HST : Hid (∀ w3, Below W.heap.size W w3 → w.heap.size + 3 ≤ w3.heap.size ∧ Below w.heap.size w w3 ∧ (w3.cell? ⟨w.heap.size, 0, none⟩ = some (.slice A1 m1 c1) ∧ w3.cell? ⟨w.heap.size, 1, none⟩ = some (.slice A2 m2 c2) ∧ w3.cell? ⟨w.heap.size, 2, none⟩ = some (.slice A3 m3 c3)) ∧ (w3.cell? ⟨w.heap.size + 1, 0, none⟩ = some (.int .i64 o1) ∧ w3.cell? ⟨w.heap.size + 1, 1, none⟩ = some (.string (bstr n1)) ∧ w3.cell? ⟨w.heap.size + 1, 2, none⟩ = some (.int .i64 s1) ∧ w3.cell? ⟨w.heap.size + 1, 3, none⟩ = some (.slice B l1 cb)) ∧
   (w3.cell? ⟨w.heap.size + 2, 0, none⟩ = some (.int .i64 0) ∧ w3.cell? ⟨w.heap.size + 2, 1, none⟩ = some (.string { data := #[] }) ∧ w3.cell? ⟨w.heap.size + 2, 2, none⟩ = some (.int .i64 0) ∧ w3.cell? ⟨w.heap.size + 2, 3, none⟩ = some (.slice none 0 0)) ∧ (w3.frozen? ⟨w.heap.size + 2, 0, none⟩ = false ∧ w3.frozen? ⟨w.heap.size + 2, 1, none⟩ = false ∧ w3.frozen? ⟨w.heap.size + 2, 2, none⟩ = false ∧ w3.frozen? ⟨w.heap.size + 2, 3, none⟩ = false)) := Lib.hid (fun w3 h3 => by
  have h4 := (h3.block _ (by omega)).trans hX0
  have h5 := (h3.block _ (by omega)).trans hT0
  have h6 := (h3.block _ (by omega)).trans hY0
  exact ⟨by have := h3.size; omega, hb0.trans (h3.mono hb0.size), tsl.box3 h4, grami.box4 h5, grami.box4 h6, ⟨frozen_of_row w3 _ 0 _ _ h6, frozen_of_row w3 _ 1 _ _ h6, frozen_of_row w3 _ 2 _ _ h6, frozen_of_row w3 _ 3 _ _ h6⟩⟩)
 have HZR : Hid (canG P Q O t = none → ∀ w3, Below w.heap.size w w3 → ∀ u0 u1 u2 u3, CanA P Q O t w (.returned (.tuple #[.agg #[.int .i64 0, .string { data := #[] }, .int .i64 0, .slice none 0 0], .bool false])) (set4 w3 (w.heap.size + 2) u0 u1 u2 u3)) := Lib.hid (fun hr w3 h3 u0 u1 u2 u3 =>
  ⟨zT, .slice none 0 0, false, rfl, fun h => (by cases h), fun _ => hr, HasR.nil _ _ _ (by unfold maxLen; omega) _, set4_belowB h3 (by omega) _ _ _ _⟩)
 obtain ⟨_, _, ⟨x0, x1, x2⟩, _, _, _⟩ := HST.out W (Below.refl _ _)
 clear hb0 hb1 hX0 hT0 hY0 hz0 hz1
 go_enter Tryz.func48, Tryz.ntmps48
 go_upto_region 1 with fail
 rw [hW0] at hW
 rw [← hW]
 clear hW hW0
 go_wp2_with fail
 refine (HSI.out W HB0.out).mono ?_
 rintro e w1 ⟨rfl, hb1⟩
 have HB1 := Lib.hid hb1
 obtain ⟨hzw1, hbw1, ⟨y0, y1, y2⟩, ⟨y3, y4, y5, y6⟩, ⟨z0, z1, z2, z3⟩, ⟨q0, q1, q2, q3⟩⟩ := HST.out w1 hb1
 clear x0 x1 x2 hb1
 cases sb with
 | false =>
  have HZ := Lib.hid (HZR.out (HNO.out rfl) w1 hbw1)
  clear hbw1 y0 y1 y2 y3 y4 y5 y6
  go_wp2
  refine bodyPost_ret (v := .tuple #[.agg #[.int .i64 0, .string { data := #[] }, .int .i64 0, .slice none 0 0], .bool false]) (by simp [results, Tryz.results48, go_sem, z0, z1, z2, z3]) rfl ?_
  exact HZ.out _ _ _ _
 | true =>
  have HC := Lib.hid (HCN.out rfl w1 hbw1)
  have HE := HEQ.out rfl
  have HEE := Lib.hid HE
  clear hbw1 z0 z1 z2 z3 q0 q1 q2 q3 HE HCN HEQ HNO HSI
  go_wp2_with fail
  refine HC.out.mono ?_
  rintro e w2 ⟨u, vu, r, rfl, hr1, hr0, hvu, hb2⟩
  obtain ⟨Au, cu, rfl, _⟩ := HasR.shape hvu rfl
  have HR := Lib.hid (And.intro hr1 (And.intro hr0 hvu))
  have HB2 := Lib.hid (HB1.out.trans (hb2.mono HB1.out.size))
  obtain ⟨W3, hW3⟩ : ∃ W3, W3 = w2.alloc (.cells #[.int .i64 u.op, .string (bstr u.name), .int .i64 u.sort, .slice Au u.args.length cu] 34) := ⟨_, rfl⟩
  have hb3 : Below w2.heap.size w2 W3 := by rw [hW3]; exact (Below.refl _ _).alloc (Nat.le_refl _) _
  have hx3 : W3.heap[w2.heap.size]? = some (.cells #[.int .i64 u.op, .string (bstr u.name), .int .i64 u.sort, .slice Au u.args.length cu] 34 (0, 0)) := by rw [hW3]; exact termt.heap_at _ _ _ rfl
  have HB3 := Lib.hid (HB2.out.trans (hb3.mono HB2.out.size))
  obtain ⟨_, hbw3, _, _, ⟨z0, z1, z2, z3⟩, ⟨q0, q1, q2, q3⟩⟩ := HST.out W3 HB3.out
  obtain ⟨b0, b1, b2, b3⟩ := grami.box4 hx3
  have HVU := Lib.hid (hvu.below (Nat.le_refl _) hb3)
  clear hr1 hr0 hvu hb2 hx3 hb3 y0 y1 y2 y3 y4 y5 y6 HC
  unfold aggT
  go_upto_region 4 with fail
  rw [← hW3]
  clear hW3
  cases r with
  | false =>
   have HZ := Lib.hid (HZR.out (by rw [HEE.out]; exact HR.out.2.1 rfl) W3 hbw3)
   clear hbw3 b0 b1 b2 b3
   go_wp2
   refine bodyPost_ret (v := .tuple #[.agg #[.int .i64 0, .string { data := #[] }, .int .i64 0, .slice none 0 0], .bool false]) (by simp [results, Tryz.results48, go_sem, z0, z1, z2, z3]) rfl ?_
   exact HZ.out _ _ _ _
  | true =>
   obtain ⟨hu, hf, hl, hbu⟩ := HR.out.1 rfl
   have HU := Lib.hid (And.intro hu hl)
   have HCP := Lib.hid (copyT_any 22 u (.slice Au u.args.length cu) W3 _ HVU.out hbu (by have h1 := hl.1; have h2 := termro.size_eq u; omega))
   have HBW := Lib.hid hbw3
   clear hu hf hl hbu hbw3 z0 z1 z2 z3 q0 q1 q2 q3
   go_wp2_with fail
   refine HCP.out.mono ?_
   rintro e w5 ⟨vc, rfl, hvc, hb5⟩
   obtain ⟨Ac, cc, rfl, _⟩ := HasR.shape hvc rfl
   obtain ⟨_, hbw5, _, _, ⟨z0, z1, z2, z3⟩, ⟨q0, q1, q2, q3⟩⟩ := HST.out w5 (HB3.out.trans (hb5.mono HB3.out.size))
   have HF : Hid (∀ u0 u1 u2 u3, CanA P Q O t w (.returned (.tuple #[.agg #[.int .i64 u.op, .string (bstr u.name), .int .i64 u.sort, .slice Ac u.args.length cc], .bool true])) (set4 w5 (w.heap.size + 2) u0 u1 u2 u3)) := Lib.hid (fun u0 u1 u2 u3 =>
    ⟨u, _, true, rfl, fun _ => by rw [HEE.out]; exact HU.out.1, fun h => (by cases h), (HasR.kept (RT_steady 22) hvc (set4_kept (by have := HBW.out.size; have := HB3.out.size; have := (HST.out W (Below.refl _ _)).1; omega) _ _ _ _)).mono (RT_steady 22) (Nat.zero_le _), set4_belowB hbw5 (by omega) _ _ _ _⟩)
   clear hvc hb5 hbw5 b0 b1 b2 b3 HCP
   go_wp2
   refine bodyPost_ret (v := .tuple #[.agg #[.int .i64 u.op, .string (bstr u.name), .int .i64 u.sort, .slice Ac u.args.length cc], .bool true]) (by simp [results, Tryz.results48, go_sem, z0, z1, z2, z3]) rfl ?_
   exact HF.out _ _ _ _
set_option maxRecDepth 50000 in
set_option maxHeartbeats 8000000 in
/-- spec.EqualModulo -/
theorem sEqm_any {N lo : Nat} (P : List (List UInt8)) (Q : List (Int × Int)) (O : List OpM) (va vb vc : Value) (t s : TermM) (vt vs : Value) (w : World) (h : HasG w va vb vc P Q O) (ht : HasTs N lo w vt t.args) (hs : HasTs N lo w vs s.args) (hBt : Bnd t) (hBs : Bnd s) (hst : sizes t.args ≤ 1048576) (hss : sizes s.args ≤ 1048576) (z : Bool) (hz : z = true ↔ ∃ u, canG P Q O t = some u ∧ canG P Q O s = some u) :
  Calls Tryz.prog 20 #[.agg #[va, vb, vc], aggT t vt, aggT s vs] w fun e w' => e = .returned (.bool z) ∧ Below w.heap.size w w' := by
 have HT1 := Lib.hid (fun W (hW : Below w.heap.size w W) => sCan_any P Q O va vb vc t vt W (h.below (Nat.le_refl _) hW) (ht.below (Nat.le_refl _) hW) hBt hst)
 have HT2 := Lib.hid (fun W (hW : Below w.heap.size w W) => sCan_any P Q O va vb vc s vs W (h.below (Nat.le_refl _) hW) (hs.below (Nat.le_refl _) hW) hBs hss)
 obtain ⟨A1, c1, A2, c2, A3, c3, rfl, rfl, rfl, _⟩ := h.shape
 obtain ⟨B1, d1, rfl, _⟩ := HasR.shape ht rfl
 obtain ⟨B2, d2, rfl, _⟩ := HasR.shape hs rfl
 obtain ⟨m1, hm1⟩ : ∃ q, q = P.length := ⟨_, rfl⟩
 obtain ⟨m2, hm2⟩ : ∃ q, q = Q.length := ⟨_, rfl⟩
 obtain ⟨m3, hm3⟩ : ∃ q, q = O.length := ⟨_, rfl⟩
 rw [← hm1, ← hm2, ← hm3] at HT1 HT2 ⊢
 unfold aggT at HT1 HT2 ⊢
 obtain ⟨o1, ho1⟩ : ∃ q, q = t.op := ⟨_, rfl⟩
 obtain ⟨n1, hn1⟩ : ∃ q, q = t.name := ⟨_, rfl⟩
 obtain ⟨s1, hs1⟩ : ∃ q, q = t.sort := ⟨_, rfl⟩
 obtain ⟨l1, hl1⟩ : ∃ q, q = t.args.length := ⟨_, rfl⟩
 obtain ⟨o2, ho2⟩ : ∃ q, q = s.op := ⟨_, rfl⟩
 obtain ⟨n2, hn2⟩ : ∃ q, q = s.name := ⟨_, rfl⟩
 obtain ⟨s2, hs2⟩ : ∃ q, q = s.sort := ⟨_, rfl⟩
 obtain ⟨l2, hl2⟩ : ∃ q, q = s.args.length := ⟨_, rfl⟩
 rw [← ho1, ← hn1, ← hs1, ← hl1] at HT1 ⊢
 rw [← ho2, ← hn2, ← hs2, ← hl2] at HT2 ⊢
 have HZ := Lib.hid hz
 clear h ht hs hBt hBs hst hss hm1 hm2 hm3 ho1 hn1 hs1 hl1 ho2 hn2 hs2 hl2 hz
 obtain ⟨W0, hW0⟩ : ∃ W0, W0 = (w.alloc (.cells #[.slice A1 m1 c1, .slice A2 m2 c2, .slice A3 m3 c3] 42)).alloc (.cells #[.int .i64 o1, .string (bstr n1), .int .i64 s1, .slice B1 l1 d1] 34) := ⟨_, rfl⟩
 obtain ⟨W, hW⟩ : ∃ W, W = W0.alloc (.cells #[.int .i64 o2, .string (bstr n2), .int .i64 s2, .slice B2 l2 d2] 34) := ⟨_, rfl⟩
 have hz1 : W0.heap.size = w.heap.size + 2 := by rw [hW0]; simp
 have hz0 : W.heap.size = w.heap.size + 3 := by rw [hW]; simp [hz1]
 have hb1 : Below W0.heap.size W0 W := by rw [hW]; exact (Below.refl _ _).alloc (Nat.le_refl _) _
 have hb0 : Below w.heap.size w W := by
  rw [hW, hW0]
  repeat (first | exact Below.refl _ _ | refine Below.alloc ?_ (by first | (simp; done) | (simp; omega)) _)
 have hX0 : W.heap[w.heap.size]? = some (.cells #[.slice A1 m1 c1, .slice A2 m2 c2, .slice A3 m3 c3] 42 (0, 0)) := (hb1.block _ (by omega)).trans (by rw [hW0]; exact tsl.heap2a _ _ _)
 have hT0 : W.heap[w.heap.size + 1]? = some (.cells #[.int .i64 o1, .string (bstr n1), .int .i64 s1, .slice B1 l1 d1] 34 (0, 0)) := (hb1.block _ (by omega)).trans (by rw [hW0]; exact termt.heap_at _ _ _ (by simp))
 have hY0 : W.heap[w.heap.size + 2]? = some (.cells #[.int .i64 o2, .string (bstr n2), .int .i64 s2, .slice B2 l2 d2] 34 (0, 0)) := by rw [hW]; exact termt.heap_at _ _ _ (by omega)
 have HB0 := Lib.hid hb0
 have HST : Hid (∀ w3, Below W.heap.size W w3 → w.heap.size + 3 ≤ w3.heap.size ∧ Below w.heap.size w w3 ∧ (w3.cell? ⟨w.heap.size, 0, none⟩ = some (.slice A1 m1 c1) ∧ w3.cell? ⟨w.heap.size, 1, none⟩ = some (.slice A2 m2 c2) ∧ w3.cell? ⟨w.heap.size, 2, none⟩ = some (.slice A3 m3 c3)) ∧ (w3.cell? ⟨w.heap.size + 1, 0, none⟩ = some (.int .i64 o1) ∧ w3.cell? ⟨w.heap.size + 1, 1, none⟩ = some (.string (bstr n1)) ∧ w3.cell? ⟨w.heap.size + 1, 2, none⟩ = some (.int .i64 s1) ∧ w3.cell? ⟨w.heap.size + 1, 3, none⟩ = some (.slice B1 l1 d1)) ∧
   (w3.cell? ⟨w.heap.size + 2, 0, none⟩ = some (.int .i64 o2) ∧ w3.cell? ⟨w.heap.size + 2, 1, none⟩ = some (.string (bstr n2)) ∧ w3.cell? ⟨w.heap.size + 2, 2, none⟩ = some (.int .i64 s2) ∧ w3.cell? ⟨w.heap.size + 2, 3, none⟩ = some (.slice B2 l2 d2))) := Lib.hid (fun w3 h3 => by
  have h4 := (h3.block _ (by omega)).trans hX0
  have h5 := (h3.block _ (by omega)).trans hT0
  have h6 := (h3.block _ (by omega)).trans hY0
  exact ⟨by have := h3.size; omega, hb0.trans (h3.mono hb0.size), tsl.box3 h4, grami.box4 h5, grami.box4 h6⟩)
 obtain ⟨_, _, ⟨x0, x1, x2⟩, ⟨y0, y1, y2, y3⟩, _⟩ := HST.out W (Below.refl _ _)
 have HC1 := Lib.hid (HT1.out W HB0.out)
 clear hb0 hb1 hX0 hT0 hY0 hz0 hz1
 go_enter Tryz.func20, Tryz.ntmps20
 go_upto_region 1 with fail
 rw [hW0] at hW
 rw [← hW]
 clear hW hW0
 go_wp2_with fail
 refine HC1.out.mono ?_
 rintro e w2 ⟨a, va1, r1, rfl, ha1, ha0, hva, hb2⟩
 obtain ⟨Aa, ca, rfl, _⟩ := HasR.shape hva rfl
 have HA := Lib.hid (And.intro ha1 (And.intro ha0 hva))
 have HB2 := Lib.hid hb2
 obtain ⟨W3, hW3⟩ : ∃ W3, W3 = w2.alloc (.cells #[.int .i64 a.op, .string (bstr a.name), .int .i64 a.sort, .slice Aa a.args.length ca] 34) := ⟨_, rfl⟩
 have hb3 : Below w2.heap.size w2 W3 := by rw [hW3]; exact (Below.refl _ _).alloc (Nat.le_refl _) _
 have hx3 : W3.heap[w2.heap.size]? = some (.cells #[.int .i64 a.op, .string (bstr a.name), .int .i64 a.sort, .slice Aa a.args.length ca] 34 (0, 0)) := by rw [hW3]; exact termt.heap_at _ _ _ rfl
 have hz3 : W3.heap.size = w2.heap.size + 1 := by rw [hW3]; simp
 have HB3 := Lib.hid hb3
 have HX3 := Lib.hid hx3
 obtain ⟨_, hbw3, ⟨j0, j1, j2⟩, _, ⟨k0, k1, k2, k3⟩⟩ := HST.out W3 (HB2.out.trans (hb3.mono HB2.out.size))
 have HC2 := Lib.hid (HT2.out W3 hbw3)
 clear ha1 ha0 hva hb2 hb3 hx3 x0 x1 x2 y0 y1 y2 y3 hbw3 HC1 HT1
 unfold aggT
 go_upto_region 2 with fail
 rw [← hW3]
 clear hW3
 go_wp2_with fail
 refine HC2.out.mono ?_
 rintro e w4 ⟨b, vb1, r2, rfl, hb1', hb0', hvb, hb4⟩
 obtain ⟨Ab, cb, rfl, _⟩ := HasR.shape hvb rfl
 have HBB := Lib.hid (And.intro hb1' (And.intro hb0' hvb))
 have HB4 := Lib.hid hb4
 obtain ⟨W5, hW5⟩ : ∃ W5, W5 = w4.alloc (.cells #[.int .i64 b.op, .string (bstr b.name), .int .i64 b.sort, .slice Ab b.args.length cb] 34) := ⟨_, rfl⟩
 have hb5 : Below w4.heap.size w4 W5 := by rw [hW5]; exact (Below.refl _ _).alloc (Nat.le_refl _) _
 have hx5 : W5.heap[w4.heap.size]? = some (.cells #[.int .i64 b.op, .string (bstr b.name), .int .i64 b.sort, .slice Ab b.args.length cb] 34 (0, 0)) := by rw [hW5]; exact termt.heap_at _ _ _ rfl
 have hb35 : Below W3.heap.size W3 W5 := hb4.trans (hb5.mono hb4.size)
 obtain ⟨a0, a1, a2, a3⟩ := grami.box4 ((hb35.block _ (by omega)).trans HX3.out)
 obtain ⟨b0, b1, b2, b3⟩ := grami.box4 hx5
 have HB5 : Hid (Below w.heap.size w W5) := Lib.hid (by
  have h1 := HB0.out.trans (HB2.out.mono HB0.out.size)
  exact (h1.trans (HB3.out.mono h1.size)).trans (hb35.mono (by have := h1.size; have := HB3.out.size; omega)))
 have HAV : Hid (HasTs 22 0 W5 (.slice Aa a.args.length ca) a.args ∧ HasTs 22 0 W5 (.slice Ab b.args.length cb) b.args) := Lib.hid ⟨(HA.out.2.2.below (Nat.le_refl _) HB3.out).below (Nat.le_refl _) hb35, hvb.below (Nat.le_refl _) hb5⟩
 clear hb1' hb0' hvb hb4 hb5 hx5 hb35 HC2 HT2 j0 j1 j2 k0 k1 k2 k3
 unfold aggT
 go_upto_region 3 with fail
 rw [← hW5]
 clear hW5
 cases r1 with
 | false =>
  have HZF : Hid (z = false) := Lib.hid (by cases hzz : z with
   | false => rfl
   | true =>
    obtain ⟨u, h1, _⟩ := HZ.out.1 hzz
    rw [HA.out.2.1 rfl] at h1
    cases h1)
  clear a0 a1 a2 a3 b0 b1 b2 b3
  go_wp2
  go_ret
  exact ⟨by rw [HZF.out]; rfl, HB5.out⟩
 | true =>
  cases r2 with
  | false =>
   have HZF : Hid (z = false) := Lib.hid (by cases hzz : z with
    | false => rfl
    | true =>
     obtain ⟨u, _, h1⟩ := HZ.out.1 hzz
     rw [HBB.out.2.1 rfl] at h1
     cases h1)
   clear a0 a1 a2 a3 b0 b1 b2 b3
   go_wp2
   go_ret
   exact ⟨by rw [HZF.out]; rfl, HB5.out⟩
  | true =>
   have HZT : Hid (decide (cmp a b = 0) = z) := Lib.hid (by
    rw [Bool.eq_iff_iff, decide_eq_true_eq, HZ.out, cmp_zero]
    constructor
    ·intro e
     exact ⟨a, HA.out.1 rfl, by rw [e]; exact HBB.out.1 rfl⟩
    ·rintro ⟨u, h1, h2⟩
     rw [HA.out.1 rfl] at h1
     rw [HBB.out.1 rfl] at h2
     exact (Option.some.inj h1).trans (Option.some.inj h2).symm)
   have HEQ := Lib.hid (same_any (n := 22) (m := 22) a b _ _ W5 HAV.out.1 HAV.out.2 z HZT.out)
   unfold aggT at HEQ
   go_wp2_with fail
   refine HEQ.out.mono ?_
   rintro e w6 ⟨rfl, hg6⟩
   have HB6 := Lib.hid (HB5.out.trans (hg6.mono HB5.out.size))
   clear hg6 a0 a1 a2 a3 b0 b1 b2 b3
   go_wp2
   go_ret
   exact ⟨rfl, HB6.out⟩
end Go.Proofs.YtkkmjaggebjcbaaGreat.eqs
