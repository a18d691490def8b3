/-
  Eqm, Tmn, merged.
-/
import Derived.Test.YtkkmjaggebjcbaaGreatRebw
import Derived.Deep.DeepCutAuto
import Derived.Deep.LoopGhost
import Derived.Test.YtkkmjaggebjcbaaGreatPk13
import Derived.Test.YtkkmjaggebjcbaaGreatTml
import Derived.Test.YtkkmjaggebjcbaaGreatPk07
import Derived.Test.YtkkmjaggebjcbaaGreatSigb
/-
 THE PROGRAM'S CANONICAL FORMS: canonicalForms and the function that it returns, EqualModulo.
-/
namespace Go.Proofs.YtkkmjaggebjcbaaGreat.eqm
open Go.ChangeShapes Go.WideShapes Go.ChangeAt Go.RowKit
open mem dec setm sets sortm sortn sortp sorti sortf sortu sortg sigm sigs sigt sigl rowl trm trmv terml termb termt termx termz termro termsd termvr termvo termev frm termlm sigi sigj sigk gram gramo graml gramk gramc gramn gramt grami formlf formnd formk formr formf formm termcl tma tmm tmr tsk tmb tmf tmg tmc tmi rebm rebp rebq rebn rebw rebc
section
variable {P : List (List UInt8)} {Q : List (Int × Int)} {O : List OpM}
/-- what the program's function on nodes keeps -/
theorem nodeG_makes (P : List (List UInt8)) (Q : List (Int × Int)) (O : List OpM) : Makes (nodeG (grM P Q O)) (GTerm (grM P Q O)) 1 := by
 refine ⟨fun {t u zs} hA h => ?_, fun {t u zs} hA h hs => ?_, fun {u} h => ?_⟩
 ·by_cases hok : sigOk P Q O = true
  ·have hF : ∀ a ∈ zs, FormS P Q O a := fun a ha => ((gterm_iff a).1 (hA a ha)).2.2
   rw [node_eq hok t zs hF] at h
   obtain ⟨h1, h2⟩ := nodeS_form hok hF h
   exact (gterm_iff u).2 ⟨hok, ⟨h2.1, h2.2.1⟩, h1⟩
  ·rw [nodeG_no hok] at h; cases h
 ·have h1 := nodeG_size h
  have h2 := termro.size_eq t
  omega
 ·have h1 := h.1.2.1
  have h2 := termro.depth_eq u
  omega
end
theorem node_builds {N : Nat} (P : List (List UInt8)) (Q : List (Int × Int)) (O : List OpM) (mm : Option Nat) (A : Option Addr) (n c : Nat) (hn : n = (grM P Q O).E.length) (wl : World) (hM : HasM wl (.map mm) (.slice A n c) (grM P Q O)) (X : List Nat) :
  Builds 100 #[.agg #[.map mm, .slice A n c]] #[] N X (nodeG (grM P Q O)) (GTerm (grM P Q O)) wl := by
 intro S e w hb _ hNode hgd hrow hsz
 exact canonNode_any (grM P Q O) (grOk_gr P Q O) mm A n c hn S e wl w hb hNode hgd hrow hsz hM
theorem pla_below : ∀ (m : Nat) {N : Nat} {w W : World} {v : Value} {L : List TermM}, Below w.heap.size w W → HasTs N 0 w v L → PlA m w v L → PlA m W v L
 | 0, _, _, _, _, _, _, _, _ => trivial
 | m + 1, N, w, W, v, L, hb0, hh, hp => by
  intro j hj g o c hv
  obtain ⟨h1, h2⟩ := hp j hj g o c hv
  refine ⟨h1.below hb0, fun v' hv' => ?_⟩
  subst hv
  obtain ⟨kn, g', o', B2, cx, hNk, e, _, hg, _, _, _, f3, hxx, _⟩ := term_at hh hj
  simp only [Option.some.injEq, Addr.mk.injEq, and_true] at e
  obtain ⟨rfl, rfl⟩ := e
  have h3 := (hb0.cell (p := ⟨g, o + j * 4 + 3, none⟩) hg).trans f3
  rw [h3] at hv'
  injection hv' with hv'
  subst hv'
  exact pla_below m hb0 hxx (h2 _ f3)
/-- the answer of the function that gives canonical forms -/
def CanI (P : List (List UInt8)) (Q : List (Int × Int)) (O : List OpM) (t : TermM) (w : World) (e : Ending) (w' : World) : Prop :=
 ∃ u vu r, e = .returned (.tuple #[aggT u vu, .bool r]) ∧ (r = true → canG P Q O t = some u ∧ GTerm (grM P Q O) u) ∧ (r = false → canG P Q O t = none) ∧ HasTs 22 0 w' vu u.args ∧ Below w.heap.size w w'
set_option maxRecDepth 50000 in
set_option maxHeartbeats 8000000 in
theorem forms1_any {N : Nat} (P : List (List UInt8)) (Q : List (Int × Int)) (O : List OpM) (mm : Option Nat) (A : Option Addr) (n c : Nat) (hn : n = (grM P Q O).E.length) (gb : Nat) (t : TermM) (vt : Value) (w : World) (hM : HasM w (.map mm) (.slice A n c) (grM P Q O)) (hg0 : w.cell? ⟨gb, 0, none⟩ = some (.map mm)) (hg1 : w.cell? ⟨gb, 1, none⟩ = some (.slice A n c)) (ht : HasTs N 0 w vt t.args) (hB : Bnd t) (hsz : sizes t.args ≤ 1048576) (hpl : ∀ m, PlA m w vt t.args) :
  Calls Tryz.prog 98 #[aggT t vt, .pointer (some ⟨gb, 0, none⟩)] w (CanI P Q O t w) := by
 obtain ⟨W, hW⟩ : ∃ W, W = (w.alloc (.cells #[.int .i64 t.op, .string (bstr t.name), .int .i64 t.sort, vt] 34)).alloc (.cells #[.int .i64 0, .string { data := #[] }, .int .i64 0, .slice none 0 0] 34) := ⟨_, rfl⟩
 have hb0 : Below w.heap.size w W := by
  rw [hW]
  repeat (first | exact Below.refl _ _ | refine Below.alloc ?_ (by first | (simp; done) | (simp; omega)) _)
 have hz0 : W.heap.size = w.heap.size + 2 := by rw [hW]; simp
 have hX0 : W.heap[w.heap.size]? = some (.cells #[.int .i64 t.op, .string (bstr t.name), .int .i64 t.sort, vt] 34 (0, 0)) := by rw [hW]; exact tsl.heap2a _ _ _
 have hY0 : W.heap[w.heap.size + 1]? = some (.cells #[.int .i64 0, .string { data := #[] }, .int .i64 0, .slice none 0 0] 34 (0, 0)) := by rw [hW]; exact termt.heap_at _ _ _ (by simp)
 obtain ⟨x0, x1, x2, x3⟩ := grami.box4 hX0
 have hnode : NodeE N W ⟨w.heap.size, 0, t, vt, [], .slice none 0 0⟩ := ⟨⟨x0, x1, x2, x3⟩, ht.below (Nat.le_refl _) hb0, hB, ⟨_, _, hX0⟩, fun m => pla_below m hb0 ht (hpl m)⟩
 have hroot : size t ≤ 1048577 := by have := termro.size_eq t; omega
 have eg : ∀ args w, (callFunc 100 args).run Tryz.prog w = .ok (.enter 100 args) w := Go.Proofs.enters_of Tryz.func100 (by kernel_rfl) rfl
 have HRB := Lib.hid (rebuild_any (N := N) (Z := 1) (M := 1048577) 100 #[.agg #[.map mm, .slice A n c]] #[] eg (nodeG_makes P Q O) (by omega) (by omega) t hroot w.heap.size 0 vt W [w.heap.size + 1] (by intro q hq; simp at hq; omega) (node_builds P Q O mm A n c hn W (hM.below hb0) _) hnode)
 have g0 := (hb0.cell (p := ⟨gb, 0, none⟩) (block_lt_of_cell hg0)).trans hg0
 have g1 := (hb0.cell (p := ⟨gb, 1, none⟩) (block_lt_of_cell hg1)).trans hg1
 have HB0 := Lib.hid hb0
 have HY0 := Lib.hid hY0
 unfold aggT
 clear hn hM hg0 hg1 ht hB hsz hpl x0 x1 x2 x3 hnode hroot hX0 hb0 hY0
 go_enter Tryz.func98, Tryz.ntmps98
 go_upto_region 1 with fail
 rw [← hW]
 clear hW
 go_wp2_with fail
 refine HRB.out.mono ?_
 rintro e w2 ⟨u, vu, r, rfl, hr0, hr1, hvu, hb2⟩
 have hvu' := has_sub _ (sub_blank _ _) hvu
 obtain ⟨Au, cu, rfl, _⟩ := HasR.shape hvu' rfl
 have hy2 := (hb2.block _ (by omega)).trans HY0.out
 obtain ⟨z0, z1, z2, z3⟩ := grami.box4 hy2
 have q0 : w2.frozen? ⟨w.heap.size + 1, 0, none⟩ = false := frozen_of_row w2 _ 0 _ _ hy2
 have q1 : w2.frozen? ⟨w.heap.size + 1, 1, none⟩ = false := frozen_of_row w2 _ 1 _ _ hy2
 have q2 : w2.frozen? ⟨w.heap.size + 1, 2, none⟩ = false := frozen_of_row w2 _ 2 _ _ hy2
 have q3 : w2.frozen? ⟨w.heap.size + 1, 3, none⟩ = false := frozen_of_row w2 _ 3 _ _ hy2
 have HF : Hid (∀ u0 u1 u2 u3, CanI P Q O t w (.returned (.tuple #[.agg #[.int .i64 u.op, .string (bstr u.name), .int .i64 u.sort, .slice Au u.args.length cu], .bool r])) (set4 w2 (w.heap.size + 1) u0 u1 u2 u3)) := Lib.hid (fun u0 u1 u2 u3 => by
  have hc : Chg [w.heap.size + 1] w2 (set4 w2 (w.heap.size + 1) u0 u1 u2 u3) := ((((Chg.refl _ _).trans (Chg.set (by simp) u0)).trans (Chg.set (by simp) u1)).trans (Chg.set (by simp) u2)).trans (Chg.set (by simp) u3)
  exact ⟨u, .slice Au u.args.length cu, r, rfl, fun h => ⟨(hr1 h).1, (hr1 h).2.1⟩, fun h => (hr0 h).1, has_sub _ (sub_chg hc) hvu, set4_belowB (HB0.out.trans (hb2.mono HB0.out.size)) (by omega) _ _ _ _⟩)
 clear hr0 hr1 hvu hvu' hb2 hy2 g0 g1
 go_wp2
 refine bodyPost_ret (v := .tuple #[.agg #[.int .i64 u.op, .string (bstr u.name), .int .i64 u.sort, .slice Au u.args.length cu], .bool r]) (by simp [results, Tryz.results98, go_sem, z0, z1, z2, z3]) rfl ?_
 exact HF.out _ _ _ _
set_option maxRecDepth 50000 in
theorem forms_any (P : List (List UInt8)) (Q : List (Int × Int)) (O : List OpM) (va vb vc : Value) (w : World) (h : HasG w va vb vc P Q O) :
  Calls Tryz.prog 50 #[.agg #[va, vb, vc]] w fun e w' => ∃ gb mm A c, e = .returned (.func (.func 98) #[] #[.pointer (some ⟨gb, 0, none⟩)]) ∧ (w'.cell? ⟨gb, 0, none⟩ = some (.map mm) ∧ w'.cell? ⟨gb, 1, none⟩ = some (.slice A (grM P Q O).E.length c)) ∧ HasM w' (.map mm) (.slice A (grM P Q O).E.length c) (grM P Q O) ∧ Below w.heap.size w w' := by
 have HGR := Lib.hid (fun W (hW : Below w.heap.size w W) => grammarOf_any P Q O va vb vc W (h.below (Nat.le_refl _) hW))
 obtain ⟨A1, c1, A2, c2, A3, c3, rfl, rfl, rfl, _⟩ := h.shape
 obtain ⟨m1, hm1⟩ : ∃ q, q = P.length := ⟨_, rfl⟩
 obtain ⟨m2, hm2⟩ : ∃ q, q = Q.length := ⟨_, rfl⟩
 obtain ⟨m3, hm3⟩ : ∃ q, q = O.length := ⟨_, rfl⟩
 rw [← hm1, ← hm2, ← hm3] at HGR ⊢
 clear h hm1 hm2 hm3
 have hb0 : Below w.heap.size w (w.alloc (.cells #[.slice A1 m1 c1, .slice A2 m2 c2, .slice A3 m3 c3] 42)) := (Below.refl _ _).alloc (Nat.le_refl _) _
 have HB0 := Lib.hid hb0
 clear hb0
 go_enter Tryz.func50, Tryz.ntmps50
 go_wp2_with fail
 refine (HGR.out _ HB0.out).mono ?_
 rintro e w1 ⟨mv, A, c, rfl, hM, _, hb1⟩
 obtain ⟨mm, rfl⟩ := mapU_shape hM.m
 have HM : Hid (∀ W, Below w1.heap.size w1 W → HasM W (.map mm) (.slice A (grM P Q O).E.length c) (grM P Q O)) := Lib.hid (fun W hW => hM.below hW)
 have HB1 := Lib.hid (HB0.out.trans (hb1.mono HB0.out.size))
 have hbA : Below w1.heap.size w1 (w1.alloc (.cells #[.map mm, .slice A (grM P Q O).E.length c] 78)) := (Below.refl _ _).alloc (Nat.le_refl _) _
 have hX : (w1.alloc (.cells #[.map mm, .slice A (grM P Q O).E.length c] 78)).heap[w1.heap.size]? = some (.cells #[.map mm, .slice A (grM P Q O).E.length c] 78 (0, 0)) := termt.heap_at _ _ _ rfl
 have HF : Hid (∃ gb mm' A' c', (Ending.returned (.func (.func 98) #[] #[.pointer (some ⟨w1.heap.size, 0, none⟩)])) = .returned (.func (.func 98) #[] #[.pointer (some ⟨gb, 0, none⟩)]) ∧ ((w1.alloc (.cells #[.map mm, .slice A (grM P Q O).E.length c] 78)).cell? ⟨gb, 0, none⟩ = some (.map mm') ∧ (w1.alloc (.cells #[.map mm, .slice A (grM P Q O).E.length c] 78)).cell? ⟨gb, 1, none⟩ = some (.slice A' (grM P Q O).E.length c')) ∧ HasM (w1.alloc (.cells #[.map mm, .slice A (grM P Q O).E.length c] 78)) (.map mm') (.slice A' (grM P Q O).E.length c') (grM P Q O) ∧ Below w.heap.size w (w1.alloc (.cells #[.map mm, .slice A (grM P Q O).E.length c] 78))) :=
  Lib.hid ⟨w1.heap.size, mm, A, c, rfl, ⟨cell_of_row _ _ 0 _ _ _ hX, cell_of_row _ _ 1 _ _ _ hX⟩, HM.out _ hbA, HB1.out.trans (hbA.mono HB1.out.size)⟩
 clear hM hb1 hbA hX HM
 go_wp2
 go_ret
 exact HF.out
theorem canI_size {P : List (List UInt8)} {Q : List (Int × Int)} {O : List OpM} {u : TermM} (h : GTerm (grM P Q O) u) : sizes u.args ≤ 2097152 := by
 have h1 := h.1.1
 have h2 := termro.size_eq u
 omega
set_option maxRecDepth 50000 in
set_option maxHeartbeats 8000000 in
/-- impl.EqualModulo -/
theorem iEqm_any {N : Nat} (P : List (List UInt8)) (Q : List (Int × Int)) (O : List OpM) (va vb vc : Value) (t s : TermM) (vt vs : Value) (w : World) (h : HasG w va vb vc P Q O) (ht : HasTs N 0 w vt t.args) (hs : HasTs N 0 w vs s.args) (hBt : Bnd t) (hBs : Bnd s) (hst : sizes t.args ≤ 1048576) (hss : sizes s.args ≤ 1048576) (hpt : ∀ m, PlA m w vt t.args) (hps : ∀ m, PlA m w vs s.args) (z : Bool) (hz : z = true ↔ ∃ u, canG P Q O t = some u ∧ canG P Q O s = some u) :
  Calls Tryz.prog 22 #[.agg #[va, vb, vc], aggT t vt, aggT s vs] w fun e w' => e = .returned (.bool z) ∧ Below w.heap.size w w' := by
 have HFO := Lib.hid (fun W (hW : Below w.heap.size w W) => forms_any P Q O va vb vc W (h.below (Nat.le_refl _) hW))
 have HT1 := Lib.hid (fun gb mm A c W (hW : Below w.heap.size w W) (hg : W.cell? ⟨gb, 0, none⟩ = some (.map mm) ∧ W.cell? ⟨gb, 1, none⟩ = some (.slice A (grM P Q O).E.length c)) (hM : HasM W (.map mm) (.slice A (grM P Q O).E.length c) (grM P Q O)) => forms1_any (N := N) P Q O mm A _ c rfl gb t vt W hM hg.1 hg.2 (ht.below (Nat.le_refl _) hW) hBt hst (fun m => pla_below m hW ht (hpt m)))
 have HT2 := Lib.hid (fun gb mm A c W (hW : Below w.heap.size w W) (hg : W.cell? ⟨gb, 0, none⟩ = some (.map mm) ∧ W.cell? ⟨gb, 1, none⟩ = some (.slice A (grM P Q O).E.length c)) (hM : HasM W (.map mm) (.slice A (grM P Q O).E.length c) (grM P Q O)) => forms1_any (N := N) P Q O mm A _ c rfl gb s vs W hM hg.1 hg.2 (hs.below (Nat.le_refl _) hW) hBs hss (fun m => pla_below m hW hs (hps m)))
 obtain ⟨A1, c1, A2, c2, A3, c3, rfl, rfl, rfl, _⟩ := h.shape
 obtain ⟨B1, d1, rfl, _⟩ := HasR.shape ht rfl
 obtain ⟨B2, d2, rfl, _⟩ := HasR.shape hs rfl
 obtain ⟨m1, hm1⟩ : ∃ q, q = P.length := ⟨_, rfl⟩
 obtain ⟨m2, hm2⟩ : ∃ q, q = Q.length := ⟨_, rfl⟩
 obtain ⟨m3, hm3⟩ : ∃ q, q = O.length := ⟨_, rfl⟩
 rw [← hm1, ← hm2, ← hm3] at HFO ⊢
 unfold aggT at HT1 HT2 ⊢
 obtain ⟨o1, ho1⟩ : ∃ q, q = t.op := ⟨_, rfl⟩
 obtain ⟨n1, hn1⟩ : ∃ q, q = t.name := ⟨_, rfl⟩
 obtain ⟨s1, hs1⟩ : ∃ q, q = t.sort := ⟨_, rfl⟩
 obtain ⟨l1, hl1⟩ : ∃ q, q = t.args.length := ⟨_, rfl⟩
 obtain ⟨o2, ho2⟩ : ∃ q, q = s.op := ⟨_, rfl⟩
 obtain ⟨n2, hn2⟩ : ∃ q, q = s.name := ⟨_, rfl⟩
 obtain ⟨s2, hs2⟩ : ∃ q, q = s.sort := ⟨_, rfl⟩
 obtain ⟨l2, hl2⟩ : ∃ q, q = s.args.length := ⟨_, rfl⟩
 rw [← ho1, ← hn1, ← hs1, ← hl1] at HT1 ⊢
 rw [← ho2, ← hn2, ← hs2, ← hl2] at HT2 ⊢
 obtain ⟨n, hn⟩ : ∃ n, n = (grM P Q O).E.length := ⟨_, rfl⟩
 rw [← hn] at HFO HT1 HT2
 have HZ := Lib.hid hz
 clear h ht hs hBt hBs hst hss hpt hps hm1 hm2 hm3 ho1 hn1 hs1 hl1 ho2 hn2 hs2 hl2 hn hz
 obtain ⟨W0, hW0⟩ : ∃ W0, W0 = (w.alloc (.cells #[.slice A1 m1 c1, .slice A2 m2 c2, .slice A3 m3 c3] 42)).alloc (.cells #[.int .i64 o1, .string (bstr n1), .int .i64 s1, .slice B1 l1 d1] 34) := ⟨_, rfl⟩
 obtain ⟨W, hW⟩ : ∃ W, W = W0.alloc (.cells #[.int .i64 o2, .string (bstr n2), .int .i64 s2, .slice B2 l2 d2] 34) := ⟨_, rfl⟩
 have hz1 : W0.heap.size = w.heap.size + 2 := by rw [hW0]; simp
 have hz0 : W.heap.size = w.heap.size + 3 := by rw [hW]; simp [hz1]
 have hb1 : Below W0.heap.size W0 W := by rw [hW]; exact (Below.refl _ _).alloc (Nat.le_refl _) _
 have hb0 : Below w.heap.size w W := by
  rw [hW, hW0]
  repeat (first | exact Below.refl _ _ | refine Below.alloc ?_ (by first | (simp; done) | (simp; omega)) _)
 have hX0 : W.heap[w.heap.size]? = some (.cells #[.slice A1 m1 c1, .slice A2 m2 c2, .slice A3 m3 c3] 42 (0, 0)) := (hb1.block _ (by omega)).trans (by rw [hW0]; exact tsl.heap2a _ _ _)
 have hT0 : W.heap[w.heap.size + 1]? = some (.cells #[.int .i64 o1, .string (bstr n1), .int .i64 s1, .slice B1 l1 d1] 34 (0, 0)) := (hb1.block _ (by omega)).trans (by rw [hW0]; exact termt.heap_at _ _ _ (by simp))
 have hY0 : W.heap[w.heap.size + 2]? = some (.cells #[.int .i64 o2, .string (bstr n2), .int .i64 s2, .slice B2 l2 d2] 34 (0, 0)) := by rw [hW]; exact termt.heap_at _ _ _ (by omega)
 have HB0 := Lib.hid hb0
 have HST : Hid (∀ w3, Below W.heap.size W w3 → w.heap.size + 3 ≤ w3.heap.size ∧ Below w.heap.size w w3 ∧ (w3.cell? ⟨w.heap.size, 0, none⟩ = some (.slice A1 m1 c1) ∧ w3.cell? ⟨w.heap.size, 1, none⟩ = some (.slice A2 m2 c2) ∧ w3.cell? ⟨w.heap.size, 2, none⟩ = some (.slice A3 m3 c3)) ∧ (w3.cell? ⟨w.heap.size + 1, 0, none⟩ = some (.int .i64 o1) ∧ w3.cell? ⟨w.heap.size + 1, 1, none⟩ = some (.string (bstr n1)) ∧ w3.cell? ⟨w.heap.size + 1, 2, none⟩ = some (.int .i64 s1) ∧ w3.cell? ⟨w.heap.size + 1, 3, none⟩ = some (.slice B1 l1 d1)) ∧
   (w3.cell? ⟨w.heap.size + 2, 0, none⟩ = some (.int .i64 o2) ∧ w3.cell? ⟨w.heap.size + 2, 1, none⟩ = some (.string (bstr n2)) ∧ w3.cell? ⟨w.heap.size + 2, 2, none⟩ = some (.int .i64 s2) ∧ w3.cell? ⟨w.heap.size + 2, 3, none⟩ = some (.slice B2 l2 d2))) := Lib.hid (fun w3 h3 => by
  have h4 := (h3.block _ (by omega)).trans hX0
  have h5 := (h3.block _ (by omega)).trans hT0
  have h6 := (h3.block _ (by omega)).trans hY0
  exact ⟨by have := h3.size; omega, hb0.trans (h3.mono hb0.size), tsl.box3 h4, grami.box4 h5, grami.box4 h6⟩)
 obtain ⟨_, _, ⟨x0, x1, x2⟩, _, _⟩ := HST.out W (Below.refl _ _)
 clear hb0 hb1 hX0 hT0 hY0 hz0 hz1
 go_enter Tryz.func22, Tryz.ntmps22
 go_upto_region 1 with fail
 rw [hW0] at hW
 rw [← hW]
 clear hW hW0
 go_wp2_with fail
 refine (HFO.out _ HB0.out).mono ?_
 rintro e w1 ⟨gb, mm, A, c, rfl, hg, hM, hb1⟩
 have HG := Lib.hid (And.intro hg hM)
 have HB1 := Lib.hid hb1
 obtain ⟨_, hbw1, _, ⟨y0, y1, y2, y3⟩, _⟩ := HST.out w1 hb1
 have HC1 := Lib.hid (HT1.out gb mm A c w1 hbw1 hg hM)
 clear x0 x1 x2 hg hM hb1 hbw1
 go_wp2_with fail
 refine HC1.out.mono ?_
 rintro e w2 ⟨a, va1, r1, rfl, ha1, ha0, hva, hb2⟩
 obtain ⟨Aa, ca, rfl, _⟩ := HasR.shape hva rfl
 have HA := Lib.hid (And.intro ha1 (And.intro ha0 hva))
 have HB2 := Lib.hid (HB1.out.trans (hb2.mono HB1.out.size))
 have HG2 : Hid (∀ W3, Below w2.heap.size w2 W3 → (W3.cell? ⟨gb, 0, none⟩ = some (.map mm) ∧ W3.cell? ⟨gb, 1, none⟩ = some (.slice A n c)) ∧ HasM W3 (.map mm) (.slice A n c) (grM P Q O)) := Lib.hid (fun W3 h3 => by
  have h4 := hb2.trans (h3.mono hb2.size)
  exact ⟨⟨(h4.cell (p := ⟨gb, 0, none⟩) (block_lt_of_cell HG.out.1.1)).trans HG.out.1.1, (h4.cell (p := ⟨gb, 1, none⟩) (block_lt_of_cell HG.out.1.2)).trans HG.out.1.2⟩, HG.out.2.below h4⟩)
 obtain ⟨hzw2, hbw2, _, _, ⟨q0, q1, q2, q3⟩⟩ := HST.out w2 HB2.out
 obtain ⟨W3, hW3⟩ : ∃ W3, W3 = w2.alloc (.cells #[.int .i64 a.op, .string (bstr a.name), .int .i64 a.sort, .slice Aa a.args.length ca] 34) := ⟨_, rfl⟩
 have hb3 : Below w2.heap.size w2 W3 := by rw [hW3]; exact (Below.refl _ _).alloc (Nat.le_refl _) _
 have hx3 : W3.heap[w2.heap.size]? = some (.cells #[.int .i64 a.op, .string (bstr a.name), .int .i64 a.sort, .slice Aa a.args.length ca] 34 (0, 0)) := by rw [hW3]; exact termt.heap_at _ _ _ rfl
 have hz3 : W3.heap.size = w2.heap.size + 1 := by rw [hW3]; simp
 have HB3 := Lib.hid hb3
 have HX3 := Lib.hid hx3
 obtain ⟨_, hbw3, _, _, ⟨k0, k1, k2, k3⟩⟩ := HST.out W3 (HB2.out.trans (hb3.mono HB2.out.size))
 have HC2 := Lib.hid (HT2.out gb mm A c W3 hbw3 (HG2.out W3 hb3).1 (HG2.out W3 hb3).2)
 clear ha1 ha0 hva hb2 hbw2 hb3 hx3 y0 y1 y2 y3 q0 q1 q2 q3 hbw3 HC1 HT1
 unfold aggT
 go_upto_region 3 with fail
 rw [← hW3]
 clear hW3
 go_wp2_with fail
 refine HC2.out.mono ?_
 rintro e w4 ⟨b, vb1, r2, rfl, hb1', hb0', hvb, hb4⟩
 obtain ⟨Ab, cb, rfl, _⟩ := HasR.shape hvb rfl
 have HBB := Lib.hid (And.intro hb1' (And.intro hb0' hvb))
 have HB4 := Lib.hid hb4
 obtain ⟨W5, hW5⟩ : ∃ W5, W5 = w4.alloc (.cells #[.int .i64 b.op, .string (bstr b.name), .int .i64 b.sort, .slice Ab b.args.length cb] 34) := ⟨_, rfl⟩
 have hb5 : Below w4.heap.size w4 W5 := by rw [hW5]; exact (Below.refl _ _).alloc (Nat.le_refl _) _
 have hx5 : W5.heap[w4.heap.size]? = some (.cells #[.int .i64 b.op, .string (bstr b.name), .int .i64 b.sort, .slice Ab b.args.length cb] 34 (0, 0)) := by rw [hW5]; exact termt.heap_at _ _ _ rfl
 have hb35 : Below W3.heap.size W3 W5 := hb4.trans (hb5.mono hb4.size)
 obtain ⟨a0, a1, a2, a3⟩ := grami.box4 ((hb35.block _ (by omega)).trans HX3.out)
 obtain ⟨b0, b1, b2, b3⟩ := grami.box4 hx5
 have HB5 : Hid (Below w.heap.size w W5) := Lib.hid (by
  have h1 := HB0.out.trans (HB2.out.mono HB0.out.size)
  exact (h1.trans (HB3.out.mono h1.size)).trans (hb35.mono (by have := h1.size; have := HB3.out.size; omega)))
 have HAV : Hid (HasTs 22 0 W5 (.slice Aa a.args.length ca) a.args ∧ HasTs 22 0 W5 (.slice Ab b.args.length cb) b.args) := Lib.hid ⟨(HA.out.2.2.below (Nat.le_refl _) HB3.out).below (Nat.le_refl _) hb35, hvb.below (Nat.le_refl _) hb5⟩
 clear hb1' hb0' hvb hb4 hb5 hx5 hb35 HC2 HT2 k0 k1 k2 k3
 unfold aggT
 go_upto_region 4 with fail
 rw [← hW5]
 clear hW5
 cases r1 with
 | false =>
  have HZF : Hid (z = false) := Lib.hid (by cases hzz : z with
   | false => rfl
   | true =>
    obtain ⟨u, h1, _⟩ := HZ.out.1 hzz
    rw [HA.out.2.1 rfl] at h1
    cases h1)
  clear a0 a1 a2 a3 b0 b1 b2 b3
  go_wp2
  go_ret
  exact ⟨by rw [HZF.out]; rfl, HB5.out⟩
 | true =>
  cases r2 with
  | false =>
   have HZF : Hid (z = false) := Lib.hid (by cases hzz : z with
    | false => rfl
    | true =>
     obtain ⟨u, _, h1⟩ := HZ.out.1 hzz
     rw [HBB.out.2.1 rfl] at h1
     cases h1)
   clear a0 a1 a2 a3 b0 b1 b2 b3
   go_wp2
   go_ret
   exact ⟨by rw [HZF.out]; rfl, HB5.out⟩
  | true =>
   have HZT : Hid (decide (cmp a b = 0) = z) := Lib.hid (by
    rw [Bool.eq_iff_iff, decide_eq_true_eq, HZ.out, cmp_zero]
    constructor
    ·intro e
     exact ⟨a, (HA.out.1 rfl).1, by rw [e]; exact (HBB.out.1 rfl).1⟩
    ·rintro ⟨u, h1, h2⟩
     rw [(HA.out.1 rfl).1] at h1
     rw [(HBB.out.1 rfl).1] at h2
     exact (Option.some.inj h1).trans (Option.some.inj h2).symm)
   have HEQ := Lib.hid (areEqual_any (n := 22) a b _ _ W5 HAV.out.1 HAV.out.2 (canI_size (HA.out.1 rfl).2) z HZT.out)
   unfold aggT at HEQ
   go_wp2_with fail
   refine HEQ.out.mono ?_
   rintro e w6 ⟨rfl, hg6⟩
   have HB6 := Lib.hid (HB5.out.trans (hg6.below.mono HB5.out.size))
   clear hg6 a0 a1 a2 a3 b0 b1 b2 b3
   go_wp2
   go_ret
   exact ⟨rfl, HB6.out⟩
end Go.Proofs.YtkkmjaggebjcbaaGreat.eqm
/-
 THE MODEL's MakeTerm.
-/
namespace Go.Proofs.YtkkmjaggebjcbaaGreat.tmn
open Go.ChangeShapes Go.WideShapes Go.ChangeAt Go.RowKit
open mem dec setm sets sortm sortn sortp sorti sortf sortu sortg sigm sigs sigt sigl sigb rowl trm trmv terml termb termt termx termz termro termsd termv termvr termvo termev frm termlm sigi sigj sigk gram gramo graml gramk gramc gramn gramt grami formlf formnd formk formr formf formt formm termcl tma tmm tmr tsk tmb tmf tmg tmc tmi tml

end Go.Proofs.YtkkmjaggebjcbaaGreat.tmn
