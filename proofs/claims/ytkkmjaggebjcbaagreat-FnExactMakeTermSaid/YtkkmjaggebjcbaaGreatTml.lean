/-
 THE MODEL's FORM OF AN APPLICATION: l6Make.
-/
import Derived.Test.YtkkmjaggebjcbaaGreatPk10
import Derived.Test.YtkkmjaggebjcbaaGreatPk05
import Derived.Test.YtkkmjaggebjcbaaGreatTermsi
import Derived.Deep.DeepCutAuto
import Derived.Deep.LoopGhost
namespace Go.Proofs.YtkkmjaggebjcbaaGreat.tml
open Go.ChangeShapes Go.WideShapes Go.ChangeAt Go.RowKit
open mem dec setm sets sortm sortn sortp sorti sortf sortu sortg sigm sigs sigt sigl rowl trm trmv terml termb termt termx termz termro termsd termv termvr termvo termev frm termlm sigi sigj sigk gram gramo graml gramk gramc gramn gramt grami formlf formnd formk formr formf formm termcl termlc termsi tma tmm tmr tsk tmb tmf tmg tmc tmi

theorem box5 {w : World} {x : Nat} {v0 v1 v2 v3 v4 : Value} {t : TypeId} (h : w.heap[x]? = some (.cells #[v0, v1, v2, v3, v4] t (0, 0))) : w.cell? ⟨x, 0, none⟩ = some v0 ∧ w.cell? ⟨x, 1, none⟩ = some v1 ∧ w.cell? ⟨x, 2, none⟩ = some v2 ∧ w.cell? ⟨x, 3, none⟩ = some v3 ∧ w.cell? ⟨x, 4, none⟩ = some v4 :=
 ⟨cell_of_row w x 0 _ _ _ h, cell_of_row w x 1 _ _ _ h, cell_of_row w x 2 _ _ _ h, cell_of_row w x 3 _ _ _ h, cell_of_row w x 4 _ _ _ h⟩
theorem own_grow {B : Nat} {V w0 w1 w2 : World} {n : Nat} {e : TypeId} {size : Nat} {A : Option Addr} {c : Nat} {xs : List Value} (h0 : Below B V w0) (h1 : Below w0.heap.size w0 w1) (h2 : w1.grownBy w2 (Value.slice A n c).ownBlock) (ho : w0.ownsRow B e size (.slice A n c) n xs) (hB : B ≤ w0.heap.size) : Below B V w2 :=
 (h0.trans (h1.mono hB)).grown h2 (Nat.le_trans hB h1.size) (own_block ho)
/-- the last region: the box of the term, the operator's box, and the result's box, which may be written -/
abbrev S26 (bx ox x : Nat) (v0 v1 v2 v3 : Value) (a : Bool) (W w : World) : Prop :=
 ((w.cell? ⟨bx, 0, none⟩ = some v0 ∧ w.cell? ⟨bx, 1, none⟩ = some v1 ∧ w.cell? ⟨bx, 2, none⟩ = some v2 ∧ w.cell? ⟨bx, 3, none⟩ = some v3) ∧ w.cell? ⟨ox, 2, none⟩ = some (.bool a)) ∧ (w.frozen? ⟨x, 0, none⟩ = false ∧ w.frozen? ⟨x, 1, none⟩ = false ∧ w.frozen? ⟨x, 2, none⟩ = false ∧ w.frozen? ⟨x, 3, none⟩ = false) ∧ Chg [x] W w
theorem S26.below {bx ox x : Nat} {v0 v1 v2 v3 : Value} {a : Bool} {W w w' : World} (h : S26 bx ox x v0 v1 v2 v3 a W w) (hx : x < w.heap.size) (hb : Below w.heap.size w w') : S26 bx ox x v0 v1 v2 v3 a W w' := by
 have k : ∀ {a : Addr} {v : Value}, w.cell? a = some v → w'.cell? a = some v := fun {a v} h => (hb.cell (p := a) (block_lt_of_cell h)).trans h
 have f : ∀ i, w'.frozen? ⟨x, i, none⟩ = w.frozen? ⟨x, i, none⟩ := fun i => World.frozen?_of_block (a := ⟨x, i, none⟩) (hb.block x hx)
 obtain ⟨⟨⟨h0, h1, h2, h3⟩, h4⟩, ⟨h5, h6, h7, h8⟩, h9⟩ := h
 exact ⟨⟨⟨k h0, k h1, k h2, k h3⟩, k h4⟩, ⟨(f 0).trans h5, (f 1).trans h6, (f 2).trans h7, (f 3).trans h8⟩, h9.trans (Chg.of_below hb)⟩
theorem set_frozen {w : World} {p q : Addr} {u : Value} : (w.setCell p u).frozen? q = w.frozen? q := by
 simp only [World.frozen?, World.setCell, Array.getElem?_modify]
 by_cases hb : p.block = q.block
 ·rw [if_pos hb]
  cases w.heap[q.block]? with
  | none => rfl
  | some o => cases o <;> rfl
 ·rw [if_neg hb]
theorem S26.set {bx ox x : Nat} {v0 v1 v2 v3 : Value} {a : Bool} {W w : World} (h : S26 bx ox x v0 v1 v2 v3 a W w) (hb : bx ≠ x) (ho : ox ≠ x) (u0 u1 u2 u3 : Value) : S26 bx ox x v0 v1 v2 v3 a W (set4 w x u0 u1 u2 u3) := by
 have hc : Chg [x] w (set4 w x u0 u1 u2 u3) := ((((Chg.refl [x] w).trans (Chg.set (by simp) u0)).trans (Chg.set (by simp) u1)).trans (Chg.set (by simp) u2)).trans (Chg.set (by simp) u3)
 have k : ∀ {g i : Nat} {v : Value}, g ≠ x → w.cell? ⟨g, i, none⟩ = some v → (set4 w x u0 u1 u2 u3).cell? ⟨g, i, none⟩ = some v := fun {g i v} hg h => (World.cell?_of_block (a := ⟨g, i, none⟩) (hc.block g (block_lt_of_cell h) (by simp [hg]))).trans h
 obtain ⟨⟨⟨h0, h1, h2, h3⟩, h4⟩, ⟨h5, h6, h7, h8⟩, h9⟩ := h
 exact ⟨⟨⟨k hb h0, k hb h1, k hb h2, k hb h3⟩, k ho h4⟩, ⟨by simp only [set_frozen]; exact h5, by simp only [set_frozen]; exact h6, by simp only [set_frozen]; exact h7, by simp only [set_frozen]; exact h8⟩, h9.trans hc⟩
set_option maxRecDepth 100000 in
set_option maxHeartbeats 32000000 in
/-- spec.l6Make -/
theorem sl6Make_any {N lo : Nat} (P : List (List UInt8)) (Q : List (Int × Int)) (O : List OpM) (hok : sigOk P Q O = true) (va vb vc : Value) (k : Nat) (hk : k < O.length) (L : List TermM) (ve : Value) (w : World) (h : HasG w va vb vc P Q O) (ht : HasTs (N + 1) lo w ve L) (hL : ∀ a ∈ L, FormS P Q O a ∧ LimT a) (hsz : sizes L ≤ 1048576) (r : Bool) (hr : r = true ↔ CanS P Q O k L ∧ LimT (formO O k L)) :
  Calls Tryz.prog 35 #[.agg #[va, vb, vc], .int .i64 (k : Int), ve] w fun e w' => ∃ t' v', e = .returned (.tuple #[aggT t' v', .bool r]) ∧ (r = true → t' = formO O k L) ∧ HasTs (N + 1) w.heap.size w' v' t'.args ∧ Below w.heap.size w w' := by
 obtain ⟨fo, hfo⟩ : ∃ fo, fo = formO O k L := ⟨_, rfl⟩
 rw [← hfo]
 obtain ⟨p1, p2, p3, p4, p5⟩ := sig_sorts hok
 obtain ⟨_, h14, _, hd, hax⟩ := sigOk_parts hok
 have hKl : (kin P.length (prs Q)).length = P.length := kin_len _ _
 have hdk := declsOk_parts (hd _ (op_mem hk))
 have hokd := okD_parts hdk.2.2.2
 have haxk := hax _ (op_mem hk)
 simp only [axOk, argsOk, unitOk, Bool.and_eq_true, Bool.or_eq_true, decide_eq_true_eq, Bool.not_eq_true'] at haxk
 have hu14 : 0 ≤ (O.getD k default).unt ∧ (O.getD k default).unt ≤ 14 := by
  rcases haxk.2 with h4 | h4
  ·omega
  ·have := h4.1.1; omega
 have hass : (O.getD k default).ass = true → ar (O.getD k default) = 2 := fun ha => by
  rcases haxk.1 with h4 | h4
  ·rw [ha] at h4; exact absurd h4.1.1 (by simp)
  ·exact h4.1.1
 have HKI := Lib.hid (fun W (hW : Below w.heap.size w W) => l3Kinds_any P Q p1 p2 p4 p3 p5 va vb W (h.below (Nat.le_refl _) hW).s)
 have HUN := Lib.hid (fun W (hW : Below w.heap.size w W) => sUnit_any P Q O va vb vc k hk h14 hu14 W (h.below (Nat.le_refl _) hW))
 have HKN : Hid (∀ W (x : TermM) (vx : Value) (n' lo' : Nat), Below w.heap.size w W → HasTs n' lo' W vx x.args → RangeT P O x → Calls Tryz.prog 76 #[.agg #[va, vb, vc], aggT x vx] W fun e w' => e = .returned (.int .i64 ((κK P.length Q (srtT O x) : Nat) : Int)) ∧ Below W.heap.size W w') := Lib.hid (fun W x vx n' lo' hW hx hRx =>
  sKind_any P Q O hok va vb vc x vx W (h.below (Nat.le_refl _) hW) hx hRx)
 have HRG : Hid (∀ a ∈ L, RangeT P O a) := Lib.hid (fun a ha => range_of_node ((formS_eta P Q O a).1 (hL a ha).1).1)
 have HTWO : Hid (∀ a ∈ L, (O.getD k default).ass = true → a.op = (k : Int) → 2 ≤ a.args.length) := Lib.hid (fun a ha hb ho => two_args (hL a ha).1 hb ho)
 have HUE : Hid (∀ a ∈ L, ((O.getD k default).unt ≠ 0 ∧ a.op = (O.getD k default).unt - 1) ↔ ((O.getD k default).unt ≠ 0 ∧ cmp a (unitT (O.getD k default).unt) = 0)) := Lib.hid (fun a ha => by
  constructor
  ·rintro ⟨h1, h2⟩
   exact ⟨h1, (cmp_zero _ _).2 (unit_eq hok hk ((formS_eta P Q O a).1 (hL a ha).1).1 h1 h2)⟩
  ·rintro ⟨h1, h2⟩
   rw [(cmp_zero _ _).1 h2, unitT, if_neg h1]
   exact ⟨h1, rfl⟩)
 have HOK : Hid (CanS P Q O k L → (r = true ↔ okX (O.getD k default).unt (O.getD k default).ass (O.getD k default).com k L) ∧ (r = true → formX (O.getD k default).unt (O.getD k default).ass (O.getD k default).com k L = formO O k L)) := Lib.hid (fun hC => by
  obtain ⟨q1, q2⟩ := ok_iff hok hk (fun a ha => (hL a ha).1) (fun a ha => (hL a ha).2) hC.1
  exact ⟨by rw [hr, q1]; exact ⟨fun h => h.2, fun h => ⟨hC, h⟩⟩, fun hrt => q2 (hr.1 hrt).2⟩)
 have HNO : Hid (r = true → CanS P Q O k L) := Lib.hid (fun h => (hr.1 h).1)
 have hspt := sizes_parts (O.getD k default).unt (O.getD k default).ass k L
 obtain ⟨A1, c1, A2, c2, A3, c3, rfl, rfl, rfl, _, _, _, h'⟩ := h.shape
 have hO : HasO 0 w (.slice A3 O.length c3) O := h'.o
 obtain ⟨g0, o0, A4, c4, hA, _, hg0, hc0, hc1, hc2, hc3, hc4, hh, _, _⟩ := op_at hO hk
 have HAR := Lib.hid (fun W (hW : Below w.heap.size w W) nm a b u => l4Arity_any nm (O.getD k default).decls hdk.1 (.slice A4 (O.getD k default).decls.length c4) a b u W (hh.below RD_steady (Nat.le_refl _) hW))
 obtain ⟨gd, od, A5, c5, hA4, _, hgd, hdc, _, hrow, _, _⟩ := decl_at hh (j := 0) (by omega)
 rw [show od + 0 * 2 = od by omega] at hdc
 obtain ⟨κ, hκd⟩ : ∃ κ, κ = κK P.length Q := ⟨_, rfl⟩
 have hκ : ∀ x, κ x = (kin P.length (prs Q)).getD x.toNat 0 := fun x => by rw [hκd, κK]
 have HCS : Hid (CanS P Q O k L ↔ NumS O k L ∧ ∀ i, i < L.length → κ (srtT O (L.getD i default)) = κ ((hd0 (O.getD k default).decls).1.getD (atS (O.getD k default).ass i) 0)) := Lib.hid (by unfold CanS; rw [hκd])
 have HAT0 : Hid (NumS O k L → ∀ i, i < L.length → atS (O.getD k default).ass i < (hd0 (O.getD k default).decls).1.length) := Lib.hid (fun hn => at_lt hok hk hn)
 rw [← hκd] at HKN
 unfold NumS at HCS HAT0
 obtain ⟨⟨nm, Dk, a, b, u⟩, hx⟩ : ∃ x, x = O.getD k default := ⟨_, rfl⟩
 rw [← hfo] at HOK
 rw [← hx] at hc0 hc1 hc2 hc3 hc4 hh hdc hrow hdk hokd hu14 hass HUN HCS HAT0 HOK HUE HTWO HAR hspt
 simp only [] at hc0 hc1 hc2 hc3 hc4 hh hdc hrow hdk hokd hu14 hass HUN HCS HAT0 HOK HUE HTWO HAR hspt
 have hd0e : Dk.getD 0 default = hd0 Dk := rfl
 rw [hd0e] at hdc hrow
 have har : ar ⟨nm, Dk, a, b, u⟩ = (hd0 Dk).1.length := rfl
 rw [har] at hass HCS HAT0
 obtain ⟨L0, hL0⟩ : ∃ L0, L0 = (hd0 Dk).1 := ⟨_, rfl⟩
 rw [← hL0] at hdc hrow hokd HCS HAT0 hass HAR
 obtain ⟨ln, hln⟩ : ∃ ln, ln = L0.length := ⟨_, rfl⟩
 have HARG : Hid (∀ j, j < ln → ∃ gl ol z, A5 = some ⟨gl, ol, none⟩ ∧ gl < w.heap.size ∧ w.cell? ⟨gl, ol + j, none⟩ = some (.int .i64 ((z : Nat) : Int)) ∧ L0.getD j 0 = (z : Int) ∧ z < P.length) := Lib.hid (fun j hj => by
  obtain ⟨gl, ol, e, hgl, hcl⟩ := hrow.has.cellAt (j := j) (by omega)
  rw [ivs_get _ j (by omega)] at hcl
  have hin := hokd.2.2 j (by omega)
  simp only [inN, decide_eq_true_eq] at hin
  obtain ⟨z, hz⟩ : ∃ z : Nat, L0.getD j 0 = (z : Int) := ⟨(L0.getD j 0).toNat, by omega⟩
  exact ⟨gl, ol, z, e, hgl, by rw [hcl, hz], hz, by omega⟩)
 have hln3 : ln ≤ 3 := by rw [hln]; exact hokd.1
 obtain ⟨q, hq⟩ : ∃ q, q = L.length := ⟨_, rfl⟩
 obtain ⟨B, cb, rfl, _⟩ := HasR.shape ht hq.symm
 obtain ⟨n, hn⟩ : ∃ n, n = P.length := ⟨_, rfl⟩
 obtain ⟨m2, hm2⟩ : ∃ q, q = Q.length := ⟨_, rfl⟩
 obtain ⟨m3, hm3⟩ : ∃ q, q = O.length := ⟨_, rfl⟩
 obtain ⟨dl, hdl⟩ : ∃ q, q = Dk.length := ⟨_, rfl⟩
 have HQL : Hid (q = L.length) := Lib.hid hq
 rw [← hq] at HCS HAT0
 rw [← hn, ← hm2, ← hm3]
 rw [← hn] at hKl hκ HARG HKN HKI HUN
 rw [← hm2] at HKI HKN HUN
 rw [← hm3] at hk HKN HUN
 rw [← hdl] at hc1 hdk HAR
 rw [← hln] at hdc HCS HAT0 hass HAR
 obtain ⟨K, hK⟩ : ∃ K, K = kin n (prs Q) := ⟨_, rfl⟩
 rw [← hK] at HKI hKl hκ
 have HKP : Hid (∀ z : Nat, κ (z : Int) = K.getD z 0) := Lib.hid (fun z => by rw [hκ, Int.toNat_natCast])
 have HH : Hid (HasTs (N + 1) lo w (.slice B q cb) L) := Lib.hid ht
 have HSZ := Lib.hid hsz
 have HSP : Hid (sizes (partsM u a k L) ≤ 1048576) := Lib.hid (Nat.le_trans hspt hsz)
 have hq64 : q ≤ 1048576 := by have := sizes_len L; omega
 have hdl1 : 1 ≤ dl := hdk.1
 have HASS := Lib.hid hass
 have HU14 := Lib.hid hu14
 subst hA
 subst hA4
 clear h h' hO ht hq hm2 hm3 hok hd hax hdk hokd haxk hass hL hr hκd hκ hx hh hrow hd0e hL0 hln hn hK hdl hsz p1 p2 p3 p4 p5 h14 har hfo hspt hu14
 obtain ⟨W, hW⟩ : ∃ W, W = (w.alloc (.cells #[.slice A1 n c1, .slice A2 m2 c2, .slice (some ⟨g0, o0, none⟩) m3 c3] 42)).alloc (.cells #[.int .i64 0, .string { data := #[] }, .int .i64 0, .slice none 0 0] 34) := ⟨_, rfl⟩
 have hb0 : Below w.heap.size w W := by
  rw [hW]
  repeat (first | exact Below.refl _ _ | refine Below.alloc ?_ (by first | (simp; done) | (simp; omega)) _)
 have hX0 : W.heap[w.heap.size]? = some (.cells #[.slice A1 n c1, .slice A2 m2 c2, .slice (some ⟨g0, o0, none⟩) m3 c3] 42 (0, 0)) := by rw [hW]; exact heap2a _ _ _
 have hY0 : W.heap[w.heap.size + 1]? = some (.cells #[.int .i64 0, .string { data := #[] }, .int .i64 0, .slice none 0 0] 34 (0, 0)) := by rw [hW]; exact heap_at _ _ _ (by simp)
 have hzW : W.heap.size = w.heap.size + 2 := by rw [hW]; simp
 have HB0 := Lib.hid hb0
 have HX0 := Lib.hid hX0
 have HY0 := Lib.hid hY0
 have HZ := Lib.hid hzW
 obtain ⟨x0, x1, x2⟩ := box3 hX0
 have hc0' := (hb0.cell (p := ⟨g0, o0 + k * 5, none⟩) hg0).trans hc0
 have hc1' := (hb0.cell (p := ⟨g0, o0 + k * 5 + 1, none⟩) hg0).trans hc1
 have hc2' := (hb0.cell (p := ⟨g0, o0 + k * 5 + 2, none⟩) hg0).trans hc2
 have hc3' := (hb0.cell (p := ⟨g0, o0 + k * 5 + 3, none⟩) hg0).trans hc3
 have hc4' := (hb0.cell (p := ⟨g0, o0 + k * 5 + 4, none⟩) hg0).trans hc4
 have HDC : Hid (w.cell? ⟨gd, od, none⟩ = some (.slice A5 ln c5)) := Lib.hid hdc
 have i1 : (0 : Int) ≤ (k : Int) := by omega
 have i2 : (k : Int) < (m3 : Int) := by omega
 clear hb0 hdc hX0 hY0
 go_enter Tryz.func35, Tryz.ntmps35
 go_wp2_with fail
 rw [← hW]
 clear hW
 obtain ⟨WA, hWA⟩ : ∃ WA, WA = W.alloc (.cells #[.string (bstr nm), .slice (some ⟨gd, od, none⟩) dl c4, .bool a, .bool b, .int .i64 u] 113) := ⟨_, rfl⟩
 rw [← hWA]
 have hbA : Below w.heap.size w WA := by rw [hWA]; exact HB0.out.alloc HB0.out.size _
 have hbWA : Below W.heap.size W WA := by rw [hWA]; exact (Below.refl _ _).alloc (Nat.le_refl _) _
 have hAx : WA.heap[w.heap.size + 2]? = some (.cells #[.string (bstr nm), .slice (some ⟨gd, od, none⟩) dl c4, .bool a, .bool b, .int .i64 u] 113 (0, 0)) := by rw [hWA, ← HZ.out]; exact heap_at _ _ _ rfl
 have hXA := (hbWA.block _ (by have := HZ.out; omega)).trans HX0.out
 have hYA := (hbWA.block _ (by have := HZ.out; omega)).trans HY0.out
 have hzA : WA.heap.size = w.heap.size + 3 := by rw [hWA]; simp [HZ.out]
 have HBA := Lib.hid hbA
 -- what stands from here on
 have HST : Hid (∀ w3, Below WA.heap.size WA w3 → Below w.heap.size w w3 ∧ w.heap.size + 3 ≤ w3.heap.size ∧ (w3.cell? ⟨w.heap.size, 0, none⟩ = some (.slice A1 n c1) ∧ w3.cell? ⟨w.heap.size, 1, none⟩ = some (.slice A2 m2 c2) ∧ w3.cell? ⟨w.heap.size, 2, none⟩ = some (.slice (some ⟨g0, o0, none⟩) m3 c3)) ∧ (w3.cell? ⟨w.heap.size + 2, 0, none⟩ = some (.string (bstr nm)) ∧ w3.cell? ⟨w.heap.size + 2, 1, none⟩ = some (.slice (some ⟨gd, od, none⟩) dl c4) ∧ w3.cell? ⟨w.heap.size + 2, 2, none⟩ = some (.bool a) ∧ w3.cell? ⟨w.heap.size + 2, 3, none⟩ = some (.bool b) ∧ w3.cell? ⟨w.heap.size + 2, 4, none⟩ = some (.int .i64 u)) ∧
   (w3.cell? ⟨w.heap.size + 1, 0, none⟩ = some (.int .i64 0) ∧ w3.cell? ⟨w.heap.size + 1, 1, none⟩ = some (.string { data := #[] }) ∧ w3.cell? ⟨w.heap.size + 1, 2, none⟩ = some (.int .i64 0) ∧ w3.cell? ⟨w.heap.size + 1, 3, none⟩ = some (.slice none 0 0)) ∧ (w3.frozen? ⟨w.heap.size + 1, 0, none⟩ = false ∧ w3.frozen? ⟨w.heap.size + 1, 1, none⟩ = false ∧ w3.frozen? ⟨w.heap.size + 1, 2, none⟩ = false ∧ w3.frozen? ⟨w.heap.size + 1, 3, none⟩ = false)) := Lib.hid (fun w3 h3 => by
  have h4 := (h3.block _ (by omega)).trans hXA
  have h5 := (h3.block _ (by omega)).trans hAx
  have h6 := (h3.block _ (by omega)).trans hYA
  exact ⟨HBA.out.trans (h3.mono HBA.out.size), by have := h3.size; omega, box3 h4, box5 h5, box4 h6, ⟨frozen_of_row w3 _ 0 _ _ h6, frozen_of_row w3 _ 1 _ _ h6, frozen_of_row w3 _ 2 _ _ h6, frozen_of_row w3 _ 3 _ _ h6⟩⟩)
 have HZRO : Hid (r = false → ∀ (w4 : World) (u0 u1 u2 u3 : Value), Below w.heap.size w w4 → ∃ t' v', (Ending.returned (.tuple #[.agg #[.int .i64 0, .string { data := #[] }, .int .i64 0, .slice none 0 0], .bool false])) = .returned (.tuple #[aggT t' v', .bool r]) ∧ (r = true → t' = fo) ∧ HasTs (N + 1) w.heap.size (set4 w4 (w.heap.size + 1) u0 u1 u2 u3) v' t'.args ∧ Below w.heap.size w (set4 w4 (w.heap.size + 1) u0 u1 u2 u3)) := Lib.hid (fun hrf w4 u0 u1 u2 u3 h4 =>
  ⟨zT, .slice none 0 0, by rw [hrf]; rfl, by rw [hrf]; (intro e; cases e), HasR.nil _ _ _ (by unfold maxLen; omega) _, set4_belowB h4 (by omega) _ _ _ _⟩)
 clear hWA hbA hbWA hAx hXA hYA hzA hzW x0 x1 x2 hc0' hc1' hc2' hc3' hc4' HX0 HY0 HZ hc0 hc1 hc2 hc3 hc4
 refine (HKI.out WA HBA.out).mono ?_
 rintro e w2 ⟨kv, rfl, hkv, hb2⟩
 obtain ⟨KA, kc, rfl, hkh⟩ := (Has.of_own hkv).shape (n := n) (by rw [ivs_len, nats_len]; exact hKl)
 have HKR : Hid (∀ w3, Below w2.heap.size w2 w3 → ∀ z, z < n → ∃ gk ok, KA = some ⟨gk, ok, none⟩ ∧ w3.cell? ⟨gk, ok + z, none⟩ = some (.int .i64 ((κ (z : Int) : Nat) : Int))) := Lib.hid (fun w3 h3 z hz => by
  obtain ⟨gk, ok, e, hgk, hk0⟩ := hkh.cellAt (j := z) hz
  rw [ivs_get _ z (by rw [nats_len]; omega), nats_get] at hk0
  exact ⟨gk, ok, e, by rw [h3.cell (p := ⟨gk, ok + z, none⟩) hgk, hk0, HKP.out]⟩)
 have HB2 : Hid (Below WA.heap.size WA w2) := Lib.hid hb2
 clear hkv hb2 hkh
 obtain ⟨hbw2, hz2, ⟨x0, x1, x2⟩, ⟨a0, a1, a2, a3, a4⟩, _, _⟩ := HST.out w2 HB2.out
 obtain ⟨nb, hnb⟩ : ∃ nb : Bool, nb = true ↔ (if a = true then 2 ≤ q else q = ln) := by
  by_cases h9 : (if a = true then 2 ≤ q else q = ln)
  ·exact ⟨true, fun _ => h9, fun _ => rfl⟩
  ·exact ⟨false, fun e => absurd e (by simp), fun e => absurd e h9⟩
 have HNB := Lib.hid hnb
 clear hnb
 go_upto_region 3 with fail
 go_cut [38] (fun s38 wx => s38 = .bool (!nb) ∧ Hid (Below w2.heap.size w2 wx))
 case first =>
  cases a with
  | false =>
   by_cases hqe : q = ln
   ·have hnv : nb = true := by
     exact HNB.out.2 (by simp; omega)
    have d1 : ((q : Int) != (ln : Int)) = false := by rw [hqe]; simp
    have d2 : (q != ln) = false := by rw [hqe]; simp
    have d3 : decide ((q : Int) = (ln : Int)) = true := decide_eq_true (by omega)
    have d4 : ((q : Int) == (ln : Int)) = true := by rw [hqe]; simp
    clear hqe
    go_wp2_with fail
    refine (HAR.out w2 hbw2 _ _ _ _).mono ?_
    rintro e w3 ⟨rfl, hb3⟩
    obtain ⟨_, _, _, ⟨a0', a1', a2', a3', a4'⟩, _, _⟩ := HST.out w3 (HB2.out.trans (hb3.mono HB2.out.size))
    have HB3 := Lib.hid hb3
    clear hb3 a0 a1 a2 a3 a4 x0 x1 x2
    go_wp2
    go_meet
    exact ⟨by rw [hnv]; rfl, HB3.out⟩
   ·have hnv : nb = false := by
     cases hn9 : nb with
     | false => rfl
     | true => exact absurd (HNB.out.1 hn9) (by simp; omega)
    have d1 : ((q : Int) != (ln : Int)) = true := by simp; omega
    have d2 : (q != ln) = true := by simp; omega
    have d3 : decide ((q : Int) = (ln : Int)) = false := decide_eq_false (by omega)
    have d4 : ((q : Int) == (ln : Int)) = false := by simp; omega
    clear hqe
    go_wp2_with fail
    refine (HAR.out w2 hbw2 _ _ _ _).mono ?_
    rintro e w3 ⟨rfl, hb3⟩
    obtain ⟨_, _, _, ⟨a0', a1', a2', a3', a4'⟩, _, _⟩ := HST.out w3 (HB2.out.trans (hb3.mono HB2.out.size))
    have HB3 := Lib.hid hb3
    clear hb3 a0 a1 a2 a3 a4 x0 x1 x2
    go_wp2
    go_meet
    exact ⟨by rw [hnv]; rfl, HB3.out⟩
  | true =>
   by_cases hqe : q = ln
   ·have hq2 : 2 ≤ q := by have := HASS.out rfl; omega
    have hnv : nb = true := by
     exact HNB.out.2 (by simp; omega)
    have d1 : ((q : Int) != (ln : Int)) = false := by rw [hqe]; simp
    have d2 : (q != ln) = false := by rw [hqe]; simp
    have d3 : decide ((q : Int) = (ln : Int)) = true := decide_eq_true (by omega)
    have d4 : ((q : Int) == (ln : Int)) = true := by rw [hqe]; simp
    clear hqe
    go_wp2_with fail
    refine (HAR.out w2 hbw2 _ _ _ _).mono ?_
    rintro e w3 ⟨rfl, hb3⟩
    obtain ⟨_, _, _, ⟨a0', a1', a2', a3', a4'⟩, _, _⟩ := HST.out w3 (HB2.out.trans (hb3.mono HB2.out.size))
    have HB3 := Lib.hid hb3
    clear hb3 a0 a1 a2 a3 a4 x0 x1 x2
    go_wp2
    go_meet
    exact ⟨by rw [hnv]; rfl, HB3.out⟩
   ·by_cases hq2 : 2 ≤ q
    ·have hnv : nb = true := by
      exact HNB.out.2 (by simp; omega)
     have d1 : ((q : Int) != (ln : Int)) = true := by simp; omega
     have d2 : (q != ln) = true := by simp; omega
     have d3 : decide ((q : Int) = (ln : Int)) = false := decide_eq_false (by omega)
     have d4 : ((q : Int) == (ln : Int)) = false := by simp; omega
     have e1 : decide ((2 : Int) ≤ (q : Int)) = true := decide_eq_true (by omega)
     have e2 : decide (2 ≤ q) = true := decide_eq_true (by omega)
     clear hqe
     go_wp2_with fail
     refine (HAR.out w2 hbw2 _ _ _ _).mono ?_
     rintro e w3 ⟨rfl, hb3⟩
     obtain ⟨_, _, _, ⟨a0', a1', a2', a3', a4'⟩, _, _⟩ := HST.out w3 (HB2.out.trans (hb3.mono HB2.out.size))
     have HB3 := Lib.hid hb3
     clear hb3 a0 a1 a2 a3 a4 x0 x1 x2
     go_wp2
     go_meet
     exact ⟨by rw [hnv]; rfl, HB3.out⟩
    ·have hnv : nb = false := by
      cases hn9 : nb with
      | false => rfl
      | true => exact absurd (HNB.out.1 hn9) (by simp; omega)
     have d1 : ((q : Int) != (ln : Int)) = true := by simp; omega
     have d2 : (q != ln) = true := by simp; omega
     have d3 : decide ((q : Int) = (ln : Int)) = false := decide_eq_false (by omega)
     have d4 : ((q : Int) == (ln : Int)) = false := by simp; omega
     have e1 : decide ((2 : Int) ≤ (q : Int)) = false := decide_eq_false (by omega)
     have e2 : decide (2 ≤ q) = false := decide_eq_false (by omega)
     clear hqe
     go_wp2_with fail
     refine (HAR.out w2 hbw2 _ _ _ _).mono ?_
     rintro e w3 ⟨rfl, hb3⟩
     obtain ⟨_, _, _, ⟨a0', a1', a2', a3', a4'⟩, _, _⟩ := HST.out w3 (HB2.out.trans (hb3.mono HB2.out.size))
     have HB3 := Lib.hid hb3
     clear hb3 a0 a1 a2 a3 a4 x0 x1 x2
     go_wp2
     go_meet
     exact ⟨by rw [hnv]; rfl, HB3.out⟩
 case rest =>
  obtain ⟨rfl, HB3⟩ := hcut
  obtain ⟨w3, rfl⟩ : ∃ w3, w3 = wc := ⟨wc, rfl⟩
  cases nb with
  | false =>
   have hrf : r = false := by
    cases hrr : r with
    | false => rfl
    | true => exact absurd (HNB.out.2 (HCS.out.1 (HNO.out hrr)).1) (by simp)
   obtain ⟨hbw3, hz3, _, _, ⟨z0, z1, z2, z3⟩, ⟨f0, f1, f2, f3⟩⟩ := HST.out w3 (HB2.out.trans (HB3.out.mono HB2.out.size))
   clear HAR HUN
   go_wp2
   refine bodyPost_ret (v := .tuple #[.agg #[.int .i64 0, .string { data := #[] }, .int .i64 0, .slice none 0 0], .bool false]) (by simp [results, Tryz.results35, go_sem, z0, z1, z2, z3]) rfl ?_
   exact HZRO.out hrf w3 _ _ _ _ hbw3
  | true =>
   have HNUM : Hid (if a = true then 2 ≤ q else q = ln) := Lib.hid (HNB.out.1 rfl)
   obtain ⟨hbw3, hz3, ⟨x0', x1', x2'⟩, ⟨a0', a1', a2', a3', a4'⟩, _, _⟩ := HST.out w3 (HB2.out.trans (HB3.out.mono HB2.out.size))
   clear a0 a1 a2 a3 a4 x0 x1 x2
   go_wp2_with fail
   refine (HUN.out w3 hbw3).mono ?_
   rintro e w4 ⟨rfl, hb4⟩
   obtain ⟨ha, hhas⟩ : ∃ z, z = (!decide (u = 0)) := ⟨_, rfl⟩
   obtain ⟨uo, huo⟩ : ∃ z, z = (if u = 0 then 0 else u - 1) := ⟨_, rfl⟩
   have HB4 : Hid (Below WA.heap.size WA w4) := Lib.hid (HB2.out.trans ((HB3.out.trans (hb4.mono HB3.out.size)).mono HB2.out.size))
   have HB24 : Hid (Below w2.heap.size w2 w4) := Lib.hid (HB3.out.trans (hb4.mono HB3.out.size))
   rw [← hhas, ← huo]
   have HUO := Lib.hid huo
   have HHAS := Lib.hid hhas
   have hz4 : w.heap.size + 3 ≤ w4.heap.size := by have := hb4.size; omega
   have hbs : (bstr [] : ByteArray) = { data := #[] } := rfl
   have HNQ : Hid (if (a : Bool) = true then 2 ≤ q else q = ln) := Lib.hid HNUM.out
   clear hhas huo hb4 HUN HAR HKI x0' x1' x2' a0' a1' a2' a3' a4'
   go_wp2
   obtain ⟨V0, hV0⟩ : ∃ V0, V0 = w4.alloc (.cells #[.int .i64 uo, .string { data := #[] }, .int .i64 0, .slice none 0 0] 34) := ⟨_, rfl⟩
   obtain ⟨V1, hV1⟩ : ∃ V1, V1 = V0.alloc (.cells #[] 34) := ⟨_, rfl⟩
   have hb4 : Below w4.heap.size w4 V1 := by rw [hV1, hV0]; exact ((Below.refl _ _).alloc (Nat.le_refl _) _).alloc (by simp) _
   have hzv : V1.heap.size = w4.heap.size + 2 := by rw [hV1, hV0]; simp
   have hUV : V1.heap[w4.heap.size]? = some (.cells #[.int .i64 uo, .string { data := #[] }, .int .i64 0, .slice none 0 0] 34 (0, 0)) := by rw [hV1, hV0]; exact heap2a _ _ _
   have hown : V1.ownsRow (w4.heap.size + 1) 34 4 (.slice (some ⟨w4.heap.size + 1, 0, none⟩) 0 0) 0 (rowV []) := by
    have h1 := World.ownsRow_lit (e := 34) (size := 4) V0 #[] 0 (Nat.le_refl _) (by unfold maxLen; omega) rfl
    rw [← hV1] at h1
    have h2 : V0.heap.size = w4.heap.size + 1 := by rw [hV0]; simp
    rw [h2] at h1
    exact h1
   have HV4 := Lib.hid hb4
   have HUV := Lib.hid hUV
   have HOW := Lib.hid hown
   have HZV := Lib.hid hzv
   have hVz : w.heap.size + 5 ≤ V1.heap.size := by omega
   try rw [← hV0]
   try rw [← hV1]
   clear hV0 hV1 hb4 hUV hown hzv
   -- what stands in the loop
   have HLP : Hid (∀ w3, Below (w4.heap.size + 1) V1 w3 → Below WA.heap.size WA w3 ∧ Below w2.heap.size w2 w3 ∧ (w3.cell? ⟨w4.heap.size, 0, none⟩ = some (.int .i64 uo) ∧ w3.cell? ⟨w4.heap.size, 1, none⟩ = some (.string { data := #[] }) ∧ w3.cell? ⟨w4.heap.size, 2, none⟩ = some (.int .i64 0) ∧ w3.cell? ⟨w4.heap.size, 3, none⟩ = some (.slice none 0 0))) := Lib.hid (fun w3 h3 => by
    have h4 : Below w4.heap.size w4 w3 := HV4.out.trans (h3.mono (by omega))
    have h5 := (h3.block _ (by omega)).trans HUV.out
    exact ⟨HB4.out.trans (h4.mono HB4.out.size), HB24.out.trans (h4.mono HB24.out.size), box4 h5⟩)
   clear HUV HV4 HB3 HB2 HB4 HB24
   go_loopg [12, 13] q (fun gq v12 v13 wr => ∃ (p : Nat) (R : List (TermM × Value)), v13 = .int .i64 p ∧ p ≤ q ∧ q ≤ p + gq ∧ Hid (∀ i, i < p → κ (srtT O (L.getD i default)) = κ (L0.getD (atS a i) 0)) ∧ Hid (R.map Prod.fst = partsM u a k (L.take p)) ∧ Hid (∀ x ∈ R, tmr.El N lo w x) ∧ Hid (wr.ownsRow (w4.heap.size + 1) 34 4 v12 R.length (rowV R)) ∧ Hid (Below (w4.heap.size + 1) V1 wr))
   case atStart => exact ⟨0, [], rfl, Nat.zero_le _, by omega, Lib.hid (fun i hi => absurd hi (Nat.not_lt_zero _)), Lib.hid rfl, Lib.hid (fun x hx => by cases hx), HOW, Lib.hid (Below.refl _ _)⟩
   case round =>
    obtain ⟨p, R, rfl, hp, hgq, HALL, HF, HA, HO, HB⟩ := hrel
    clear HOW
    obtain ⟨AL, cL, rfl, _⟩ := own_slice HO.out
    obtain ⟨hbWA, hb2r, ⟨y0, y1, y2, y3⟩⟩ := HLP.out wr HB.out
    obtain ⟨hbw, hzr, ⟨x0, x1, x2⟩, ⟨a0, a1, a2, a3, a4⟩, _, _⟩ := HST.out wr hbWA
    have hVr := HB.out.size
    have hBr : w4.heap.size + 1 ≤ wr.heap.size := by have := HZV.out; omega
    by_cases hlt : p < q
    ·have d1 : decide ((p : Int) < (q : Int)) = true := decide_eq_true (by omega)
     obtain ⟨kn, g, o, B2, cx, hNk, rfl, _, hg, e0, e1, e2, e3, hxx, hbx⟩ := term_at HH.out hlt
     obtain rfl : N = kn := by omega
     obtain ⟨gl, ol, za, rfl, hgl, hca, hza, hzn⟩ := HARG.out (atS a p) (HAT0.out HNQ.out p hlt)
     obtain ⟨gkk, ok, rfl, cck⟩ := HKR.out wr hb2r za hzn
     have f0 := (hbw.cell (p := ⟨g, o + p * 4, none⟩) hg).trans e0
     have f1 := (hbw.cell (p := ⟨g, o + p * 4 + 1, none⟩) hg).trans e1
     have f2 := (hbw.cell (p := ⟨g, o + p * 4 + 2, none⟩) hg).trans e2
     have f3 := (hbw.cell (p := ⟨g, o + p * 4 + 3, none⟩) hg).trans e3
     have cdc := (hbw.cell (p := ⟨gd, od, none⟩) hgd).trans HDC.out
     have cca := (hbw.cell (p := ⟨gl, ol + atS a p, none⟩) hgl).trans hca
     have hpL : p < L.length := by have := HQL.out; omega
     have hmem : L.getD p default ∈ L := by rw [getD_at hpL]; exact List.getElem_mem _
     have hRx := HRG.out _ hmem
     have hatp : atS a p < ln := HAT0.out HNQ.out p hlt
     have HTK := Lib.hid (parts_take u a k L hpL)
     have hue := HUE.out _ hmem
     have HTX := Lib.hid (HTWO.out _ hmem)
     obtain ⟨x, hx⟩ : ∃ x, x = L.getD p default := ⟨_, rfl⟩
     have HXD := Lib.hid hx
     rw [← hx] at f0 f1 f2 f3 hxx hbx hRx HTK hue HTX
     have HXX := Lib.hid hxx
     have HBX := Lib.hid hbx
     obtain ⟨kx, hkx⟩ : ∃ kx, kx = κ (srtT O x) := ⟨_, rfl⟩
     obtain ⟨ka, hka⟩ : ∃ ka, ka = κ (za : Int) := ⟨_, rfl⟩
     obtain ⟨sm, hsm⟩ : ∃ sm, decide (cmp x (unitT u) = 0) = sm := ⟨_, rfl⟩
     rw [← hka] at cck
     obtain ⟨xl, hxl⟩ : ∃ xl, xl = x.args.length := ⟨_, rfl⟩
     have HXL := Lib.hid hxl
     have HC1 : Hid (∀ t : BoxC (Below wr.heap.size wr), Calls Tryz.prog 76 #[.agg #[.slice A1 n c1, .slice A2 m2 c2, .slice (some ⟨g0, o0, none⟩) m3 c3], .agg #[.int .i64 x.op, .string (bstr x.name), .int .i64 x.sort, .slice B2 xl cx]] t.W fun e w' => e = .returned (.int .i64 (kx : Int)) ∧ Below t.W.heap.size t.W w') := Lib.hid (fun t => by
      have hwt := hbw.trans (t.h.mono hbw.size)
      rw [hkx, hxl]
      exact HKN.out t.W x _ N lo hwt (hxx.below (Nat.le_refl _) hwt) hRx)
     have HC2 : Hid (∀ t : BoxC (Below wr.heap.size wr), Calls Tryz.prog 49 #[.agg #[.int .i64 x.op, .string (bstr x.name), .int .i64 x.sort, .slice B2 xl cx], .agg #[.int .i64 uo, .string { data := #[] }, .int .i64 0, .slice none 0 0]] t.W fun e w' => e = .returned (.bool sm) ∧ Below t.W.heap.size t.W w') := Lib.hid (fun t => by
      have hwt := hbw.trans (t.h.mono hbw.size)
      have h1 := same_any (n := N) (m := 0) (lo' := lo) x (unitT u) (.slice B2 x.args.length cx) (.slice none 0 0) t.W (hxx.below (Nat.le_refl _) hwt) (HasR.nil _ _ _ (by unfold maxLen; omega) _) sm hsm
      rw [HUO.out, hxl]
      exact h1)
     -- the kinds
     have HKT : Hid (r = true → kx = ka) := Lib.hid (fun hrt => by
      have h1 := (HCS.out.1 (HNO.out hrt)).2 p hlt
      rw [← hx, hza, ← hkx, ← hka] at h1
      exact h1)
     have HKE : Hid (kx = ka → ∀ i, i < p + 1 → κ (srtT O (L.getD i default)) = κ (L0.getD (atS a i) 0)) := Lib.hid (fun h1 i hi => by
      by_cases e : i = p
      ·subst e
       rw [← hx, hza, ← hkx, ← hka]
       exact h1
      ·exact HALL.out i (by omega))
     -- the unit
     have HUX : Hid ((u ≠ 0 ∧ x.op = u - 1) ↔ (ha = true ∧ sm = true)) := Lib.hid (by
      rw [hue, HHAS.out, ← hsm]
      simp)
     obtain ⟨xo, hxo⟩ : ∃ xo, xo = x.op := ⟨_, rfl⟩
     obtain ⟨xn, hxn⟩ : ∃ xn, xn = x.name := ⟨_, rfl⟩
     obtain ⟨xs, hxs⟩ : ∃ xs, xs = x.sort := ⟨_, rfl⟩
     have HXF := Lib.hid (And.intro hxo (And.intro hxn hxs))
     rw [← hxo, ← hxn, ← hxs] at HC1 HC2
     rw [← hxo] at f0 HUX HTX
     rw [← hxn] at f1
     rw [← hxs] at f2
     rw [← hxl] at f3 HTX
     have kV : ∀ {g y : Nat} {v : Value}, wr.cell? ⟨g, y, none⟩ = some v → ∀ t : BoxC (Below wr.heap.size wr), t.W.cell? ⟨g, y, none⟩ = some v := fun {g y v} h t => t.cell h (block_lt_of_cell h)
     have b0 := kV x0
     have b1 := kV x1
     have b2 := kV x2
     have b3 := kV a1
     have b4 := kV a2
     have b5 := kV y0
     have b6 := kV y1
     have b7 := kV y2
     have b8 := kV y3
     have b9 := kV cdc
     have b10 := kV cck
     have b12 := kV f0
     have b13 := kV f1
     have b14 := kV f2
     have b15 := kV f3
     have i3 : (0 : Int) ≤ (p : Int) := by omega
     have i4 : (p : Int) < (q : Int) := by omega
     have i5 : (0 : Int) < (dl : Int) := by omega
     have i6 : (0 : Int) ≤ (za : Int) := by omega
     have i7 : (za : Int) < (n : Int) := by omega
     have nb : Nonempty (BoxC (Below wr.heap.size wr)) := ⟨⟨_, Below.refl _ _⟩⟩
     have HBW : Hid (∀ t : BoxC (Below wr.heap.size wr), Below w.heap.size w t.W) := Lib.hid (fun t => hbw.trans (t.h.mono hbw.size))
     have HBV : Hid (∀ t : BoxC (Below wr.heap.size wr), Below (w4.heap.size + 1) V1 t.W) := Lib.hid (fun t => HB.out.trans (t.h.mono hBr))
     have HBT : Hid (∀ t : BoxC (Below wr.heap.size wr), Below WA.heap.size WA t.W) := Lib.hid (fun t => hbWA.trans (t.h.mono hbWA.size))
     have HOT : Hid (∀ t : BoxC (Below wr.heap.size wr), t.W.ownsRow (w4.heap.size + 1) 34 4 (.slice AL R.length cL) R.length (rowV R)) := Lib.hid (fun t => own_below HO.out t.h)
     clear kV e0 e1 e2 e3 hxx hbx hca hx hmem hza hsm hkx hka hxl hue hRx hxo hxn hxs x0 x1 x2 a0 a1 a3 a4 y0 y1 y2 y3 cdc cck f0 f1 f2 f3 hbw hb2r hpL
     obtain ⟨ap, hap⟩ : ∃ ap, ap = atS a p := ⟨_, rfl⟩
     have HAP := Lib.hid hap
     rw [← hap] at cca hatp
     clear hap
     go_upto_if 55 with fail
     go_cut [14] (fun s14 wx => s14 = .int .i64 (ap : Nat) ∧ wr = wx)
     case first =>
      cases a with
      | false =>
       have e9 : ap = p := by rw [HAP.out]; rfl
       go_wp2
       go_meet
       exact ⟨by rw [e9], rfl⟩
      | true =>
       have e9 : ap = 0 := by rw [HAP.out]; rfl
       go_wp2
       go_meet
       exact ⟨by rw [e9]; rfl, rfl⟩
     case rest =>
      obtain ⟨rfl, rfl⟩ := hcut
      have b11 : ∀ t : BoxC (Below wr.heap.size wr), t.W.cell? ⟨gl, ol + ap, none⟩ = some (.int .i64 ((za : Nat) : Int)) := fun t => t.cell cca (block_lt_of_cell cca)
      have i8 : (ap : Int) < (ln : Int) := by omega
      have i9 : (0 : Int) ≤ (ap : Int) := by omega
      have HPL : Hid (ap < ln) := Lib.hid hatp
      clear cca hatp
      by_cases hkk : kx = ka
      ·have q1 : ((kx : Int) == (ka : Int)) = true := by rw [hkk]; simp
       have q2 : (kx == ka) = true := by rw [hkk]; simp
       have q3 : decide (kx = ka) = true := decide_eq_true hkk
       have q4 : ((kx : Int) != (ka : Int)) = false := by rw [hkk]; simp
       have q5 : (kx != ka) = false := by rw [hkk]; simp
       have HK2 := Lib.hid (HKE.out hkk)
       go_wp2_with fail
       refine region_boxC (C := Below wr.heap.size wr) (by kernel_rfl) (by kernel_rfl) (Below.refl _ _).drew ?_
       repeat (first | go_big_quiet_step ((go_at_call 76; exact (HC1.out _).mono (fun _ _ h => ⟨h.1, BoxC.step _ h.2⟩))) | go_big_quiet_step ((go_at_call 49; exact (HC2.out _).mono (fun _ _ h => ⟨h.1, BoxC.step _ h.2⟩))))
       refine wpQuiet_nil ?_
       rintro w5 ⟨t5, rfl⟩
       clear q1 q2 q3 q4 q5
       obtain ⟨ub, hub⟩ : ∃ ub, ub = (ha && sm) := ⟨_, rfl⟩
       have HUB := Lib.hid hub
       clear hub
       go_upto_region 16 with fail
       go_cut [82] (fun s82 wx => s82 = .bool ub ∧ ∃ t : BoxC (Below wr.heap.size wr), wx = t.W)
       case first =>
        cases ha with
        | false =>
         go_wp2_with fail
         refine region_boxC (C := Below wr.heap.size wr) (by kernel_rfl) (by kernel_rfl) (BoxC.h t5).drew ?_
         repeat (first | go_big_quiet_step ((go_at_call 76; exact (HC1.out _).mono (fun _ _ h => ⟨h.1, BoxC.step _ h.2⟩))) | go_big_quiet_step ((go_at_call 49; exact (HC2.out _).mono (fun _ _ h => ⟨h.1, BoxC.step _ h.2⟩))))
         refine wpQuiet_nil ?_
         rintro w6 ⟨t6, rfl⟩
         go_wp2
         go_meet
         exact ⟨by rw [HUB.out]; rfl, t6, rfl⟩
        | true =>
         go_wp2_with fail
         refine region_boxC (C := Below wr.heap.size wr) (by kernel_rfl) (by kernel_rfl) (BoxC.h t5).drew ?_
         repeat (first | go_big_quiet_step ((go_at_call 76; exact (HC1.out _).mono (fun _ _ h => ⟨h.1, BoxC.step _ h.2⟩))) | go_big_quiet_step ((go_at_call 49; exact (HC2.out _).mono (fun _ _ h => ⟨h.1, BoxC.step _ h.2⟩))))
         refine wpQuiet_nil ?_
         rintro w6 ⟨t6, rfl⟩
         go_wp2
         go_meet
         exact ⟨by rw [HUB.out]; simp, t6, rfl⟩
       case rest =>
        obtain ⟨rfl, t6, rfl⟩ := hcut
        cases ub with
        | true =>
         have HUT : Hid (u ≠ 0 ∧ xo = u - 1) := Lib.hid (HUX.out.2 (by have := HUB.out; simpa using this.symm))
         have HF3 : Hid (R.map Prod.fst = partsM u a k (L.take (p + 1))) := Lib.hid (by rw [HTK.out, part1_unit (by rw [← HXF.out.1]; exact HUT.out), List.append_nil]; exact HF.out)
         have HA3 := HA
         have HO7 : Hid (t6.W.ownsRow (w4.heap.size + 1) 34 4 (.slice AL R.length cL) R.length (rowV R)) := Lib.hid (HOT.out t6)
         have HB7 : Hid (Below (w4.heap.size + 1) V1 t6.W) := Lib.hid (HBV.out t6)
         clear b0 b1 b2 b3 b4 b5 b6 b7 b8 b9 b10 b11 b12 b13 b14 b15 nb HC1 HC2
         go_wp2
         go_roundg (gk - 1)
         case measure => omega
         case rel => exact ⟨p + 1, R, by go_num, by omega, by omega, HK2, HF3, HA3, HO7, HB7⟩
        | false =>
         have hnu : ¬ (u ≠ 0 ∧ xo = u - 1) := fun e => by
          obtain ⟨h1, h2⟩ := HUX.out.1 e
          have := HUB.out
          rw [h1, h2] at this
          cases this
         have HNU := Lib.hid hnu
         clear hnu
         obtain ⟨fb, hfb⟩ : ∃ fb, fb = (a && decide (xo = (k : Int))) := ⟨_, rfl⟩
         have HFB := Lib.hid hfb
         clear hfb
         go_upto_region 17 with fail
         go_cut [92] (fun s92 wx => s92 = .bool fb ∧ t6.W = wx)
         case first =>
          cases a with
          | false =>
           go_wp2
           go_meet
           exact ⟨by rw [HFB.out]; rfl, rfl⟩
          | true =>
           by_cases hop : xo = (k : Int)
           ·have s1 : (xo == (k : Int)) = true := by rw [hop]; simp
            have s2 : decide (xo = (k : Int)) = true := decide_eq_true hop
            have s3 : fb = true := by rw [HFB.out, s2]; rfl
            clear hop
            go_wp2
            go_meet
            exact ⟨by rw [s3], rfl⟩
           ·have s1 : (xo == (k : Int)) = false := by simp [hop]
            have s2 : decide (xo = (k : Int)) = false := decide_eq_false hop
            have s3 : fb = false := by rw [HFB.out, s2]; rfl
            go_wp2
            go_meet
            exact ⟨by rw [s3], rfl⟩
         case rest =>
          obtain ⟨rfl, rfl⟩ := hcut
          have hnu := HNU.out
          cases fb with
          | false =>
           have hna : ¬ (a = true ∧ xo = (k : Int)) := fun e => by
            have := HFB.out
            rw [e.1, decide_eq_true e.2] at this
            cases this
           have HS2 : Hid ((partsM u a k (L.take (p + 1))).length ≤ 1048576) := Lib.hid (by
            have h1 := parts_pre u a k L (p + 1)
            have h2 := sizes_len (partsM u a k L)
            have := HSP.out
            omega)
           obtain ⟨R2, hR2⟩ : ∃ R2 : List (TermM × Value), R2 = [(x, .slice B2 xl cx)] := ⟨_, rfl⟩
           have HL3 : Hid (R2.length = 1) := Lib.hid (by rw [hR2]; rfl)
           have HL2 : Hid ((rowV R2).length = 1 * 4) := Lib.hid (by rw [rowV_len, HL3.out])
           have HRV : Hid (rowV R2 = [.int .i64 xo, .string (bstr xn), .int .i64 xs, .slice B2 xl cx]) := Lib.hid (by rw [hR2, HXF.out.1, HXF.out.2.1, HXF.out.2.2]; rfl)
           have HC9 : Hid (∀ j y, (rowV R2)[j]? = some y → (t6.W.alloc (.cells #[.int .i64 xo, .string (bstr xn), .int .i64 xs, .slice B2 xl cx] 34)).cell? ((⟨t6.W.heap.size, 0, none⟩ : Addr).add j) = some y) := Lib.hid (by
            rw [HRV.out]
            intro j y hy
            match j, hy with
            | 0, hy => simp at hy; subst hy; simp [Addr.add]
            | 1, hy => simp at hy; subst hy; simp [Addr.add]
            | 2, hy => simp at hy; subst hy; simp [Addr.add]
            | 3, hy => simp at hy; subst hy; simp [Addr.add])
           have HE2 : Hid (tmr.El N lo w (x, .slice B2 xl cx)) := Lib.hid ⟨by rw [HXL.out]; exact HXX.out, HBX.out⟩
           have HONE : Hid (∀ v ∈ rowV R2, v.oneCell' = true) := Lib.hid (by
            rw [HRV.out]
            intro v hv
            simp at hv
            rcases hv with rfl | rfl | rfl | rfl <;> rfl)
           have HA3 : Hid (∀ y ∈ R ++ R2, tmr.El N lo w y) := Lib.hid (fun y hy => by
            rcases List.mem_append.1 hy with h9 | h9
            ·exact HA.out y h9
            ·rw [hR2] at h9
             simp at h9
             subst h9
             exact HE2.out)
           have HF3 : Hid ((R ++ R2).map Prod.fst = partsM u a k (L.take (p + 1))) := Lib.hid (by rw [HTK.out, part1_self (by rw [← HXF.out.1]; exact hnu) (by rw [← HXF.out.1]; exact hna), List.map_append, HF.out, hR2]; rfl)
           have hln : R.length + 1 ≤ 1048576 := by
            have h9 := HS2.out
            rw [← HF3.out, List.length_map, List.length_append, HL3.out] at h9
            exact h9
           have hs6 : w4.heap.size + 1 ≤ t6.W.heap.size := by have := (HBV.out t6).size; have := HZV.out; omega
           have HBA6 : Hid (∀ ob, Below t6.W.heap.size t6.W (t6.W.alloc ob)) := Lib.hid (fun ob => (Below.refl _ _).alloc (Nat.le_refl _) ob)
           clear hR2 hnu hna
           obtain ⟨j0, hij, hy0, hy1, hy2⟩ := info_parts info_term
           go_wp2_with (at_builtin; refine wpList_append_lies _ rfl _ _ _ rfl (w4.heap.size + 1) 34 j0 _ 4 56 Tryz.underlying32 hij hy0 hy1 hy2 rfl (by omega) _ R.length (rowV R) rfl (own_below (HOT.out t6) (HBA6.out _)) ⟨t6.W.heap.size, 0, none⟩ 1 1 (rowV R2) rfl HL2.out HC9.out HONE.out (by omega) (by unfold maxLen; omega) (by omega) (Nat.le_trans hs6 (HBA6.out _).size) _ rfl ?_; intro g4 cap4 w7 hown7 hgr7 hg7 hlt7)
           have HO7 : Hid (w7.ownsRow (w4.heap.size + 1) 34 4 (.slice (some ⟨g4, 0, none⟩) (R.length + 1) cap4) (R ++ R2).length (rowV (R ++ R2))) := Lib.hid (by rw [rowV_append, List.length_append, HL3.out]; exact hown7)
           have HB7 : Hid (Below (w4.heap.size + 1) V1 w7) := Lib.hid (own_grow (HBV.out t6) (HBA6.out _) hgr7 (HOT.out t6) hs6)
           clear hown7 hgr7 hg7 hlt7
           clear b0 b1 b2 b3 b4 b5 b6 b7 b8 b9 b10 b11 b12 b13 b14 b15 nb HC1 HC2
           go_wp2
           go_roundg (gk - 1)
           case measure => omega
           case rel => exact ⟨p + 1, R ++ R2, by go_num, by omega, by omega, HK2, HF3, HA3, HO7, HB7⟩
          | true =>
           have HAO : Hid (a = true ∧ xo = (k : Int)) := Lib.hid (by have := HFB.out; simpa using this.symm)
           have HS2 : Hid ((partsM u a k (L.take (p + 1))).length ≤ 1048576) := Lib.hid (by
            have h1 := parts_pre u a k L (p + 1)
            have h2 := sizes_len (partsM u a k L)
            have := HSP.out
            omega)
           have hq0 : 0 < xl := by have := HTX.out HAO.out.1 HAO.out.2; omega
           have HHX : Hid (HasTs N lo w (.slice B2 xl cx) x.args) := Lib.hid (by rw [HXL.out]; exact HXX.out)
           obtain ⟨k2, g2, o2, _, _, hn2, rfl, _, hg2, _⟩ := term_at HHX.out hq0
           obtain ⟨R2, hR2, hA2, hC2⟩ := row_of (n := k2) (by rw [← hn2]; exact HHX.out) HXL.out
           have hl2 : R2.length = xl := by rw [HXL.out, ← hR2, List.length_map]
           have HL3 := Lib.hid hl2
           have HL2 : Hid ((rowV R2).length = xl * 4) := Lib.hid (by rw [rowV_len, hl2])
           have HC9 : Hid (∀ j y, (rowV R2)[j]? = some y → t6.W.cell? ((⟨g2, o2, none⟩ : Addr).add j) = some y) := Lib.hid (fun j y hy => Sub.below (HBW.out t6) _ _ (hC2 g2 o2 rfl j y hy))
           have HONE : Hid (∀ v ∈ rowV R2, v.oneCell' = true) := Lib.hid (rowV_one R2 (fun y hy => by
            obtain ⟨A9, c9, e9, _⟩ := HasR.shape (hA2 y hy).1 rfl
            rw [e9]; rfl))
           have HA3 : Hid (∀ y ∈ R ++ R2, tmr.El N lo w y) := Lib.hid (fun y hy => by
            rcases List.mem_append.1 hy with h9 | h9
            ·exact HA.out y h9
            ·exact ⟨(hA2 y h9).1.up (by omega), (hA2 y h9).2⟩)
           have HF3 : Hid ((R ++ R2).map Prod.fst = partsM u a k (L.take (p + 1))) := Lib.hid (by rw [HTK.out, part1_flat (by rw [← HXF.out.1]; exact hnu) (by rw [← HXF.out.1]; exact HAO.out), List.map_append, HF.out, hR2])
           have hln : R.length + xl ≤ 1048576 := by
            have h9 := HS2.out
            rw [← HF3.out, List.length_map, List.length_append, hl2] at h9
            exact h9
           have hs6 : w4.heap.size + 1 ≤ t6.W.heap.size := by have := (HBV.out t6).size; have := HZV.out; omega
           clear hR2 hA2 hC2 hl2 hnu hg2 hn2
           obtain ⟨j0, hij, hy0, hy1, hy2⟩ := info_parts info_term
           go_wp2_with (at_builtin; refine wpList_append_lies _ rfl _ _ _ rfl (w4.heap.size + 1) 34 j0 _ 4 56 Tryz.underlying32 hij hy0 hy1 hy2 rfl (by omega) _ R.length (rowV R) rfl (HOT.out t6) ⟨g2, o2, none⟩ xl cx (rowV R2) rfl HL2.out HC9.out HONE.out (by omega) (by unfold maxLen; omega) (by omega) hs6 _ rfl ?_; intro g4 cap4 w7 hown7 hgr7 hg7 hlt7)
           have HO7 : Hid (w7.ownsRow (w4.heap.size + 1) 34 4 (.slice (some ⟨g4, 0, none⟩) (R.length + xl) cap4) (R ++ R2).length (rowV (R ++ R2))) := Lib.hid (by rw [rowV_append, List.length_append, HL3.out]; exact hown7)
           have HB7 : Hid (Below (w4.heap.size + 1) V1 w7) := Lib.hid (own_grow (HBV.out t6) (Below.refl _ _) hgr7 (HOT.out t6) hs6)
           clear hown7 hgr7 hg7 hlt7
           clear b0 b1 b2 b3 b4 b5 b6 b7 b8 b9 b10 b11 b12 b13 b14 b15 nb HC1 HC2
           go_wp2
           go_roundg (gk - 1)
           case measure => omega
           case rel => exact ⟨p + 1, R ++ R2, by go_num, by omega, by omega, HK2, HF3, HA3, HO7, HB7⟩
      ·have q1 : ((kx : Int) == (ka : Int)) = false := by simp; omega
       have q2 : (kx == ka) = false := by simp [hkk]
       have q3 : decide (kx = ka) = false := decide_eq_false hkk
       have q4 : ¬ (kx : Int) = (ka : Int) := by omega
       have q5 : (kx != ka) = true := by simp [hkk]
       have q6 : ((kx : Int) != (ka : Int)) = true := by simp; omega
       have q7 : (!decide ((kx : Int) = (ka : Int))) = true := by simp; omega
       have q8 : decide ((kx : Int) = (ka : Int)) = false := decide_eq_false q4
       have hrf : r = false := by
        cases hrr : r with
        | false => rfl
        | true => exact absurd (HKT.out hrr) hkk
       go_wp2_with fail
       refine region_boxC (C := Below wr.heap.size wr) (by kernel_rfl) (by kernel_rfl) (Below.refl _ _).drew ?_
       repeat (first | go_big_quiet_step ((go_at_call 76; exact (HC1.out _).mono (fun _ _ h => ⟨h.1, BoxC.step _ h.2⟩))) | go_big_quiet_step ((go_at_call 49; exact (HC2.out _).mono (fun _ _ h => ⟨h.1, BoxC.step _ h.2⟩))))
       refine wpQuiet_nil ?_
       rintro w5 ⟨t5, rfl⟩
       obtain ⟨hbw5, _, _, _, ⟨z0, z1, z2, z3⟩, ⟨f0, f1, f2, f3⟩⟩ := HST.out _ (HBT.out t5)
       clear b0 b1 b2 b3 b4 b5 b6 b7 b8 b9 b10 b11 b12 b13 b14 b15 nb HC1 HC2
       go_wp2
       refine bodyPost_ret (v := .tuple #[.agg #[.int .i64 0, .string { data := #[] }, .int .i64 0, .slice none 0 0], .bool false]) (by simp [results, Tryz.results35, go_sem, z0, z1, z2, z3]) rfl ?_
       exact HZRO.out hrf _ _ _ _ _ hbw5
    ·obtain rfl : p = q := by omega
     have d1 : decide ((p : Int) < (p : Int)) = false := decide_eq_false (by omega)
     obtain ⟨ps, hps⟩ : ∃ ps, ps = partsM u a k L := ⟨_, rfl⟩
     have HFL : Hid (R.map Prod.fst = ps) := Lib.hid (by rw [hps, HF.out, List.take_of_length_le (by have := HQL.out; omega)])
     have HCAN : Hid (CanS P Q O k L) := Lib.hid (HCS.out.2 ⟨HNQ.out, HALL.out⟩)
     obtain ⟨hok1, hok2⟩ := HOK.out HCAN.out
     unfold okX at hok1
     rw [← hps] at hok1
     have hps2 := HSP.out
     rw [← hps] at hps2
     have hps3 := sizes_len ps
     obtain ⟨ql, hql⟩ : ∃ ql, ql = R.length := ⟨_, rfl⟩
     have HQP : Hid (ql = ps.length) := Lib.hid (by rw [hql, ← HFL.out, List.length_map])
     rw [← HQP.out] at hok1 hps3
     have HOK1 := Lib.hid hok1
     have HOK2 := Lib.hid hok2
     have HFX : Hid (formX u a b k L = if u ≠ 0 ∧ ql = 0 then .mk (u - 1) [] 0 [] else if u ≠ 0 ∧ ql = 1 then ps.getD 0 default else .mk k [] 0 (if b = true then sortM ps else ps)) := Lib.hid (by unfold formX; rw [← hps, ← HQP.out])
     have HPS2 := Lib.hid hps2
     have hrow := RowIn.own HO.out HA.out
     have HLS : Hid (HasTs (N + 1) 0 wr (.slice AL ql cL) ps) := Lib.hid (by rw [hql, ← HFL.out]; exact hrow.has (Sub.below hbw))
     rw [← hql] at HO ⊢
     obtain ⟨z0, z1, z2, z3⟩ := (HST.out wr hbWA).2.2.2.2.1
     obtain ⟨f0, f1, f2, f3⟩ := (HST.out wr hbWA).2.2.2.2.2
     have HBW := Lib.hid hbw
     have hql20 : ql ≤ 1048576 := by omega
     have HSTR : Hid (∀ w3, Below wr.heap.size wr w3 → Below WA.heap.size WA w3) := Lib.hid (fun w3 h3 => hbWA.trans (h3.mono hbWA.size))
     clear hok1 hok2 hps2 hps3 hrow hbWA hb2r HLP HKR HALL HF HDC hps hql
     obtain ⟨e0, he0⟩ : ∃ e0 : Bool, e0 = (ha && decide (ql = 0)) := ⟨_, rfl⟩
     have HE0 := Lib.hid he0
     obtain ⟨e1, he1⟩ : ∃ e1 : Bool, e1 = (ha && decide (ql = 1)) := ⟨_, rfl⟩
     have HE1 := Lib.hid he1
     have HHU : Hid (ha = true ↔ u ≠ 0) := Lib.hid (by rw [HHAS.out]; simp)
     clear he0 he1
     go_upto_region 19 with fail
     go_cut [116] (fun s wx => s = .bool e0 ∧ wr = wx)
     case first =>
      cases ha with
      | false =>
       go_wp2
       go_meet
       exact ⟨by rw [HE0.out]; rfl, rfl⟩
      | true =>
       by_cases hq0 : ql = 0
       ·have g1 : ((ql : Int) == 0) = true := by rw [hq0]; rfl
        have g2 : (ql == 0) = true := by rw [hq0]; rfl
        have g3 : e0 = true := by rw [HE0.out, decide_eq_true hq0]; rfl
        clear hq0
        go_wp2
        go_meet
        exact ⟨by rw [g3], rfl⟩
       ·have g1 : ((ql : Int) == 0) = false := by simp; omega
        have g2 : (ql == 0) = false := by simp [hq0]
        have g3 : decide ((ql : Int) = 0) = false := decide_eq_false (by omega)
        have g4 : e0 = false := by rw [HE0.out, decide_eq_false hq0]; rfl
        go_wp2
        go_meet
        exact ⟨by rw [g4], rfl⟩
     case rest =>
      obtain ⟨rfl, rfl⟩ := hcut
      cases e0 with
      | true =>
       obtain ⟨hu1, hq0⟩ : u ≠ 0 ∧ ql = 0 := by
        have h9 := HE0.out
        simp at h9
        exact ⟨HHU.out.1 h9.1, h9.2⟩
       have hrt : r = true := HOK1.out.2 (.inl ⟨hu1, hq0⟩)
       have huo : uo = u - 1 := by rw [HUO.out, if_neg hu1]
       have HFN : Hid (∀ v0 v1 v2 v3, ∃ t' v', (Ending.returned (.tuple #[.agg #[.int .i64 uo, .string { data := #[] }, .int .i64 0, .slice none 0 0], .bool true])) = .returned (.tuple #[aggT t' v', .bool r]) ∧ (r = true → t' = fo) ∧ HasTs (N + 1) w.heap.size (set4 wr (w.heap.size + 1) v0 v1 v2 v3) v' t'.args ∧ Below w.heap.size w (set4 wr (w.heap.size + 1) v0 v1 v2 v3)) := Lib.hid (fun v0 v1 v2 v3 =>
        ⟨.mk (u - 1) [] 0 [], .slice none 0 0, by rw [hrt, huo]; rfl, fun h => by rw [← HOK2.out h, HFX.out, if_pos ⟨hu1, hq0⟩], HasR.nil _ _ _ (by unfold maxLen; omega) _, set4_belowB HBW.out (by omega) _ _ _ _⟩)
       clear hrt huo hq0
       go_wp2
       refine bodyPost_ret (v := .tuple #[.agg #[.int .i64 uo, .string { data := #[] }, .int .i64 0, .slice none 0 0], .bool true]) (by simp [results, Tryz.results35, go_sem, z0, z1, z2, z3]) rfl ?_
       exact HFN.out _ _ _ _
      | false =>
       have hne0 : ¬ (u ≠ 0 ∧ ql = 0) := fun e => by
        have h9 := HE0.out
        rw [HHU.out.2 e.1, decide_eq_true e.2] at h9
        cases h9
       have HNE0 := Lib.hid hne0
       clear hne0
       go_upto_region 21 with fail
       go_cut [123] (fun s wx => s = .bool e1 ∧ wr = wx)
       case first =>
        cases ha with
        | false =>
         go_wp2
         go_meet
         exact ⟨by rw [HE1.out]; rfl, rfl⟩
        | true =>
         by_cases hq1 : ql = 1
         ·have g1 : ((ql : Int) == 1) = true := by rw [hq1]; rfl
          have g2 : (ql == 1) = true := by rw [hq1]; rfl
          have g3 : e1 = true := by rw [HE1.out, decide_eq_true hq1]; rfl
          clear hq1
          go_wp2
          go_meet
          exact ⟨by rw [g3], rfl⟩
         ·have g1 : ((ql : Int) == 1) = false := by simp; omega
          have g2 : (ql == 1) = false := by simp [hq1]
          have g3 : decide ((ql : Int) = 1) = false := decide_eq_false (by omega)
          have g4 : e1 = false := by rw [HE1.out, decide_eq_false hq1]; rfl
          go_wp2
          go_meet
          exact ⟨by rw [g4], rfl⟩
       case rest =>
        obtain ⟨rfl, rfl⟩ := hcut
        cases e1 with
        | true =>
         obtain ⟨hu1, hq1⟩ : u ≠ 0 ∧ ql = 1 := by
          have h9 := HE1.out
          simp at h9
          exact ⟨HHU.out.1 h9.1, h9.2⟩
         have hq0 : ¬ ql = 0 := by omega
         obtain ⟨kn, g, o, B2, cx, hNk, hAL, _, hg, f0', f1', f2', f3', hxx, hbx⟩ := term_at HLS.out (j := 0) (by omega)
         obtain rfl : N = kn := by omega
         obtain ⟨x, hx⟩ : ∃ x, x = ps.getD 0 default := ⟨_, rfl⟩
         have HXD := Lib.hid hx
         rw [← hx] at f0' f1' f2' f3' hxx hbx
         have hszx : sizes x.args ≤ 1048576 := by
          have h1 := size_le_sizes (l := ps) (j := 0) (by have := HQP.out; omega)
          have h2 := termro.size_eq x
          have := HPS2.out
          rw [← hx] at h1
          omega
         have HCP := Lib.hid (copyT_any N x _ wr 0 hxx hbx hszx)
         obtain ⟨xl, hxl⟩ : ∃ xl, xl = x.args.length := ⟨_, rfl⟩
         rw [← hxl] at f3' HCP
         have hrt : r = true := HOK1.out.2 (.inr (.inl ⟨hu1, hq1⟩))
         have HRT := Lib.hid hrt
         have HU1 := Lib.hid hu1
         have HQ1 := Lib.hid (And.intro hq0 hq1)
         simp only [Nat.zero_mul, Nat.add_zero] at f0' f1' f2' f3'
         subst hAL
         have hq00 : 0 < ql := by omega
         clear hxx hbx hx hxl hszx hrt hu1 hNk hq1
         go_wp2_with fail
         refine HCP.out.mono ?_
         rintro e w6 ⟨v6, rfl, hh6, hb6⟩
         obtain ⟨A6, c6, rfl, _⟩ := HasR.shape hh6 rfl
         obtain ⟨hw6, _, _, _, ⟨z0', z1', z2', z3'⟩, ⟨f0'', f1'', f2'', f3''⟩⟩ := HST.out w6 (HSTR.out _ hb6)
         have HFN : Hid (∀ v0 v1 v2 v3, ∃ t' v', (Ending.returned (.tuple #[.agg #[.int .i64 x.op, .string (bstr x.name), .int .i64 x.sort, .slice A6 x.args.length c6], .bool true])) = .returned (.tuple #[aggT t' v', .bool r]) ∧ (r = true → t' = fo) ∧ HasTs (N + 1) w.heap.size (set4 w6 (w.heap.size + 1) v0 v1 v2 v3) v' t'.args ∧ Below w.heap.size w (set4 w6 (w.heap.size + 1) v0 v1 v2 v3)) := Lib.hid (fun v0 v1 v2 v3 =>
          ⟨x, .slice A6 x.args.length c6, by rw [HRT.out], fun h => by rw [← HOK2.out h, HFX.out, if_neg (fun h => HQ1.out.1 h.2), if_pos ⟨HU1.out, HQ1.out.2⟩, HXD.out],
           (HasR.mono (RT_steady _) (HasR.kept (RT_steady _) (hh6.up (Nat.le_succ N)) (set4_kept (x := w.heap.size + 1) (by omega) v0 v1 v2 v3)) (by omega)), set4_belowB hw6 (by omega) _ _ _ _⟩)
         clear hh6 hb6 hw6 z0 z1 z2 z3 f0 f1 f2 f3 f0' f1' f2' f3'
         go_wp2
         refine bodyPost_ret (v := .tuple #[.agg #[.int .i64 x.op, .string (bstr x.name), .int .i64 x.sort, .slice A6 x.args.length c6], .bool true]) (by simp [results, Tryz.results35, go_sem, z0', z1', z2', z3']) rfl ?_
         exact HFN.out _ _ _ _
        | false =>
         have hne1 : ¬ (u ≠ 0 ∧ ql = 1) := fun e => by
          have h9 := HE1.out
          rw [HHU.out.2 e.1, decide_eq_true e.2] at h9
          cases h9
         have HQN : Hid (¬ (u ≠ 0 ∧ ql = 0) ∧ ¬ (u ≠ 0 ∧ ql = 1)) := Lib.hid ⟨HNE0.out, hne1⟩
         clear hne1 HNE0
         have HSO := Lib.hid (ssort_any (n := N) ps (.slice AL ql cL) wr HLS.out HPS2.out)
         obtain ⟨psb, hpsb⟩ : ∃ psb, psb = if b = true then sortM ps else ps := ⟨_, rfl⟩
         have HPB := Lib.hid hpsb
         rw [← hpsb] at HFX
         have HPL : Hid (psb.length = ql ∧ sizes psb ≤ 1048576) := Lib.hid (by
          have h1 := HPS2.out
          have h2 := sizes_perm (sortM_spec ps).2
          have h3 := (sortM_spec ps).2.length_eq
          have h4 := HQP.out
          rw [hpsb]
          split <;> omega)
         clear hpsb
         have a3w := (HST.out wr (HSTR.out _ (Below.refl _ _))).2.2.2.1.2.2.2.1
         go_upto_if 129 with fail
         go_cut [12] (fun s12 wx => ∃ A6 c6, s12 = .slice A6 ql c6 ∧ Hid (HasTs (N + 1) 0 wx (.slice A6 ql c6) psb) ∧ Hid (Below wr.heap.size wr wx))
         case first =>
          cases b with
          | true =>
           have HPE : Hid (psb = sortM ps) := Lib.hid (by rw [HPB.out, if_pos rfl])
           go_wp2_with fail
           refine HSO.out.mono ?_
           rintro e w6 ⟨v6, rfl, hh6, hb6⟩
           obtain ⟨A6, c6, rfl, _⟩ := HasR.shape hh6 (n := ql) (by rw [(sortM_spec ps).2.length_eq]; exact HQP.out.symm)
           have HL6 : Hid (HasTs (N + 1) 0 w6 (.slice A6 ql c6) psb) := Lib.hid (by rw [HPE.out]; exact hh6.mono (RT_steady _) (Nat.zero_le _))
           have HB6 : Hid (Below wr.heap.size wr w6) := Lib.hid hb6
           clear hh6 hb6
           go_wp2
           go_meet
           exact ⟨A6, c6, rfl, HL6, HB6⟩
          | false =>
           have HL6 : Hid (HasTs (N + 1) 0 wr (.slice AL ql cL) psb) := Lib.hid (by rw [HPB.out, if_neg (by simp)]; exact HLS.out)
           go_wp2
           go_meet
           exact ⟨AL, cL, rfl, HL6, Lib.hid (Below.refl _ _)⟩
         case rest =>
          obtain ⟨A6, c6, rfl, HL6, HB6⟩ := hcut
          obtain ⟨w6, rfl⟩ : ∃ w6, w6 = wc := ⟨wc, rfl⟩
          have HCC := Lib.hid (copies_any (d := N) psb (.slice A6 ql c6) w6 HL6.out HPL.out.2)
          clear z0 z1 z2 z3 f0 f1 f2 f3 a3w
          have a3' := (HST.out w6 (HSTR.out _ HB6.out)).2.2.2.1.2.2.1
          go_wp2_with fail
          refine HCC.out.mono ?_
          rintro e w7 ⟨v7, rfl, hh7, hb7⟩
          obtain ⟨A7, c7, rfl, _⟩ := HasR.shape hh7 (n := ql) HPL.out.1
          have HH7 := Lib.hid hh7
          have HB7 : Hid (Below wr.heap.size wr w7) := Lib.hid (HB6.out.trans (hb7.mono HB6.out.size))
          have hz6 : wr.heap.size ≤ w6.heap.size := HB6.out.size
          have hz7 : w6.heap.size ≤ w7.heap.size := hb7.size
          clear hh7 hb7 a3' HCC HSO
          go_wp2_with fail
          obtain ⟨W9, hW9⟩ : ∃ W9, W9 = w7.alloc (.cells #[.int .i64 (k : Int), .string { data := #[] }, .int .i64 0, .slice A7 ql c7] 34) := ⟨_, rfl⟩
          have hb9 : Below w7.heap.size w7 W9 := by rw [hW9]; exact (Below.refl _ _).alloc (Nat.le_refl _) _
          have hz9 : W9.heap.size = w7.heap.size + 1 := by rw [hW9]; simp
          have hX9 : W9.heap[w7.heap.size]? = some (.cells #[.int .i64 (k : Int), .string { data := #[] }, .int .i64 0, .slice A7 ql c7] 34 (0, 0)) := by rw [hW9]; exact heap_at _ _ _ rfl
          have HB9 : Hid (Below wr.heap.size wr W9) := Lib.hid (HB7.out.trans (hb9.mono HB7.out.size))
          have HH9 : Hid (HasTs (N + 1) w6.heap.size W9 (.slice A7 ql c7) psb) := Lib.hid (HH7.out.below (Nat.le_refl _) hb9)
          rw [← hW9]
          clear hW9
          have HS9 : Hid (∀ w3, Below W9.heap.size W9 w3 → S26 w7.heap.size (w.heap.size + 2) (w.heap.size + 1) (.int .i64 (k : Int)) (.string { data := #[] }) (.int .i64 0) (.slice A7 ql c7) a W9 w3) := Lib.hid (fun w3 h3 => by
           have h4 := (h3.block _ (by omega)).trans hX9
           have h5 := HST.out w3 (HSTR.out _ (HB9.out.trans (h3.mono HB9.out.size)))
           exact ⟨⟨box4 h4, h5.2.2.2.1.2.2.1⟩, h5.2.2.2.2.2, Chg.of_below h3⟩)
          have HW9 : Hid (∀ w3, Below W9.heap.size W9 w3 → Below w.heap.size w w3 ∧ (w3.cell? ⟨w.heap.size + 1, 0, none⟩ = some (.int .i64 0) ∧ w3.cell? ⟨w.heap.size + 1, 1, none⟩ = some (.string { data := #[] }) ∧ w3.cell? ⟨w.heap.size + 1, 2, none⟩ = some (.int .i64 0) ∧ w3.cell? ⟨w.heap.size + 1, 3, none⟩ = some (.slice none 0 0))) := Lib.hid (fun w3 h3 => by
           have h5 := HST.out w3 (HSTR.out _ (HB9.out.trans (h3.mono HB9.out.size)))
           exact ⟨h5.1, h5.2.2.2.2.1⟩)
          obtain ⟨t9, ht9⟩ : ∃ t9 : TermM, t9 = .mk k [] 0 psb := ⟨_, rfl⟩
          have HT9 : Hid (t9.args = psb ∧ t9.op = (k : Int) ∧ t9.name = [] ∧ t9.sort = 0) := Lib.hid (by rw [ht9]; exact ⟨rfl, rfl, rfl, rfl⟩)
          have hs9 : sizes t9.args ≤ 1048576 := by
           rw [HT9.out.1]
           exact HPL.out.2
          have HSM : Hid (∀ w3, Below W9.heap.size W9 w3 → Calls Tryz.prog 33 #[.agg #[.int .i64 (k : Int), .string { data := #[] }, .int .i64 0, .slice A7 ql c7]] w3 fun e w' => ∃ sm, e = .returned (.bool sm) ∧ (sm = true ↔ size t9 ≤ 60 ∧ depth t9 ≤ 20) ∧ Below w3.heap.size w3 w') := Lib.hid (fun w3 h3 => by
           have h1 := small_any t9 (.slice A7 ql c7) w3 (by rw [HT9.out.1]; exact HH9.out.below (Nat.le_refl _) h3) hs9
           unfold aggT at h1
           rw [HT9.out.2.1, HT9.out.2.2.1, HT9.out.2.2.2] at h1
           exact h1)
          have HRR : Hid (∀ sm : Bool, (sm = true ↔ (a = true → ql ≤ 7) ∧ size t9 ≤ 60 ∧ depth t9 ≤ 20) → r = sm) := Lib.hid (fun sm hsm => by
           have h1 : formX u a b k L = t9 := by rw [HFX.out, if_neg HQN.out.1, if_neg HQN.out.2, ht9]
           rw [Bool.eq_iff_iff, HOK1.out, hsm, h1]
           constructor
           ·rintro (h | h | h)
            ·exact absurd h HQN.out.1
            ·exact absurd h HQN.out.2
            ·exact h
           ·intro h; exact .inr (.inr h))
          have HFN : Hid (∀ (sm : Bool) (w3 : World) (v0 v1 v2 v3 : Value), r = sm → Below W9.heap.size W9 w3 → ∃ t' v', (Ending.returned (.tuple #[.agg #[.int .i64 (k : Int), .string { data := #[] }, .int .i64 0, .slice A7 ql c7], .bool sm])) = .returned (.tuple #[aggT t' v', .bool r]) ∧ (r = true → t' = fo) ∧ HasTs (N + 1) w.heap.size (set4 w3 (w.heap.size + 1) v0 v1 v2 v3) v' t'.args ∧ Below w.heap.size w (set4 w3 (w.heap.size + 1) v0 v1 v2 v3)) := Lib.hid (fun sm w3 v0 v1 v2 v3 hrs h3 => by
           refine ⟨t9, .slice A7 ql c7, ?_, fun h => ?_, ?_, set4_belowB (HW9.out w3 h3).1 (by omega) _ _ _ _⟩
           ·unfold aggT
            rw [HT9.out.2.1, HT9.out.2.2.1, HT9.out.2.2.2, hrs]
            rfl
           ·rw [← HOK2.out h, HFX.out, if_neg HQN.out.1, if_neg HQN.out.2, ht9]
           ·rw [HT9.out.1]
            exact HasR.mono (RT_steady _) (HasR.kept (RT_steady _) (HH9.out.below (Nat.le_refl _) h3) (set4_kept (x := w.heap.size + 1) (by omega) v0 v1 v2 v3)) (by omega))
          have hne9 : w7.heap.size ≠ w.heap.size + 1 := by omega
          clear ht9 hs9 hX9 hb9 HFX HOK1 HOK2 HPS2
          cases a with
          | false =>
           refine wp_region_noPanic ?_
           refine wp_region_held_drew (S := (S26 w7.heap.size (w.heap.size + 2) (w.heap.size + 1) (.int .i64 (k : Int)) (.string { data := #[] }) (.int .i64 0) (.slice A7 ql c7) false W9)) (by kernel_rfl) ?_ (fun hHd0 => ?_)
           ·exact HS9.out _ (Below.refl _ _).drew
           refine wpAnyH_take (i := 0) (v := ?_) rfl (by kernel_rfl) (by kernel_rfl) (by kernel_rfl) (fun _ _ _ h => h) (Or.inl ⟨by rfl, ?_⟩) (by with_reducible assumption) ?_
           rotate_left
           ·intro w hSw; (try dsimp only at hSw); go_simp <;> with_reducible rfl
           (try simp only [Act.put]); (try simp only [List.setIfInBounds_toArray]); (try simp only [List.set_cons_succ, List.set_cons_zero])
           refine wpAnyH_take (i := 1) (v := ?_) rfl (by kernel_rfl) (by kernel_rfl) (by kernel_rfl) (fun _ _ _ h => h) (Or.inl ⟨by rfl, ?_⟩) (by with_reducible assumption) ?_
           rotate_left
           ·intro w hSw; (try dsimp only at hSw); go_simp <;> with_reducible rfl
           (try simp only [Act.put]); (try simp only [List.setIfInBounds_toArray]); (try simp only [List.set_cons_succ, List.set_cons_zero])
           refine wpAnyH_take (i := 2) (v := ?_) rfl (by kernel_rfl) (by kernel_rfl) (by kernel_rfl) (fun _ _ _ h => h) (Or.inl ⟨by rfl, ?_⟩) (by with_reducible assumption) ?_
           rotate_left
           ·intro w hSw; (try dsimp only at hSw); go_simp <;> with_reducible rfl
           (try simp only [Act.put]); (try simp only [List.setIfInBounds_toArray]); (try simp only [List.set_cons_succ, List.set_cons_zero])
           refine wpAnyH_take (i := 3) (v := ?_) rfl (by kernel_rfl) (by kernel_rfl) (by kernel_rfl) (fun _ _ _ h => h) (Or.inl ⟨by rfl, ?_⟩) (by with_reducible assumption) ?_
           rotate_left
           ·intro w hSw; (try dsimp only at hSw); go_simp <;> with_reducible rfl
           (try simp only [Act.put]); (try simp only [List.setIfInBounds_toArray]); (try simp only [List.set_cons_succ, List.set_cons_zero])
           refine wpAnyH_take (i := 4) (v := ?_) rfl (by kernel_rfl) (by kernel_rfl) (by kernel_rfl) (fun _ _ _ h => h) (Or.inl ⟨by rfl, ?_⟩) (by with_reducible assumption) ?_
           rotate_left
           ·intro w hSw; (try dsimp only at hSw); go_simp <;> with_reducible rfl
           (try simp only [Act.put]); (try simp only [List.setIfInBounds_toArray]); (try simp only [List.set_cons_succ, List.set_cons_zero])
           refine wpAnyH_ready (rs := [5]) (by kernel_rfl) (by simp) ?_
           refine AllReadyH.cons (o := _) rfl (fun K hK => ?_) ?_
           ·(rw [if_neg (fun hw => absurd (hw.symm.trans (by kernel_rfl) : true = false) (by decide))])
            refine hK.out _ _ ?_ (fun hHd1 => ?_)
            ·(try dsimp only); first | exact HS9.out _ (Below.refl _ _).drew | exact HS9.out _ HB10.out | exact S26.set (HS9.out _ HB10.out) hne9 (by omega) _ _ _ _ | exact S26.set (HS9.out _ (Below.refl _ _).drew) hne9 (by omega) _ _ _ _
            clear hK K hHd0
            (try simp only [Act.put]); (try simp only [List.setIfInBounds_toArray]); (try simp only [List.set_cons_succ, List.set_cons_zero])
            refine wpAnyH_ready (rs := [6]) (by kernel_rfl) (by simp) ?_
            refine AllReadyH.cons (o := _) rfl (fun K hK => ?_) ?_
            ·(rw [if_neg (fun hw => absurd (hw.symm.trans (by kernel_rfl) : true = false) (by decide))])
             refine hK.out _ _ ?_ (fun hHd2 => ?_)
             ·(try dsimp only); first | exact HS9.out _ (Below.refl _ _).drew | exact HS9.out _ HB10.out | exact S26.set (HS9.out _ HB10.out) hne9 (by omega) _ _ _ _ | exact S26.set (HS9.out _ (Below.refl _ _).drew) hne9 (by omega) _ _ _ _
             clear hK K hHd1
             (try simp only [Act.put]); (try simp only [List.setIfInBounds_toArray]); (try simp only [List.set_cons_succ, List.set_cons_zero])
             refine wpAnyH_ready (rs := [7]) (by kernel_rfl) (by simp) ?_
             refine AllReadyH.cons (o := _) rfl (fun K hK => ?_) ?_
             ·(rw [if_neg (fun hw => absurd (hw.symm.trans (by kernel_rfl) : true = false) (by decide))])
              refine hK.out _ _ ?_ (fun hHd3 => ?_)
              ·(try dsimp only); first | exact HS9.out _ (Below.refl _ _).drew | exact HS9.out _ HB10.out | exact S26.set (HS9.out _ HB10.out) hne9 (by omega) _ _ _ _ | exact S26.set (HS9.out _ (Below.refl _ _).drew) hne9 (by omega) _ _ _ _
              clear hK K hHd2
              (try simp only [Act.put]); (try simp only [List.setIfInBounds_toArray]); (try simp only [List.set_cons_succ, List.set_cons_zero])
              refine wpAnyH_take (i := 8) (v := ?_) rfl (by kernel_rfl) (by kernel_rfl) (by kernel_rfl) (fun _ _ _ h => h) (Or.inl ⟨by rfl, ?_⟩) (by with_reducible assumption) ?_
              rotate_left
              ·intro w hSw; (try dsimp only at hSw); go_simp <;> with_reducible rfl
              (try simp only [Act.put]); (try simp only [List.setIfInBounds_toArray]); (try simp only [List.set_cons_succ, List.set_cons_zero])
              refine wpAnyH_take (i := 9) (v := ?_) rfl (by kernel_rfl) (by kernel_rfl) (by kernel_rfl) (fun _ _ _ h => h) (Or.inl ⟨by rfl, ?_⟩) (by with_reducible assumption) ?_
              rotate_left
              ·intro w hSw; (try dsimp only at hSw); go_simp <;> with_reducible rfl
              (try simp only [Act.put]); (try simp only [List.setIfInBounds_toArray]); (try simp only [List.set_cons_succ, List.set_cons_zero])
              refine wpAnyH_ready (rs := [10]) (by kernel_rfl) (by simp) ?_
              refine AllReadyH.cons (o := _) rfl (fun K hK => ?_) ?_
              ·go_simp
               refine hK.out _ _ ?_ (fun hHd4 => ?_)
               ·(try dsimp only); first | exact HS9.out _ (Below.refl _ _).drew | exact HS9.out _ HB10.out | exact S26.set (HS9.out _ HB10.out) hne9 (by omega) _ _ _ _ | exact S26.set (HS9.out _ (Below.refl _ _).drew) hne9 (by omega) _ _ _ _
               clear hK K hHd3
               (try simp only [Act.put]); (try simp only [List.setIfInBounds_toArray]); (try simp only [List.set_cons_succ, List.set_cons_zero])
               refine wpAnyH_ready (rs := [11]) (by kernel_rfl) (by simp) ?_
               refine AllReadyH.cons (o := _) rfl (fun K hK => ?_) ?_
               ·(go_simp; refine (HSM.out _ (Below.refl _ _).drew).mono ?_; rintro e w10 ⟨sm, rfl, hsm, hb10⟩; have HB10 : Hid (Below W9.heap.size W9 w10) := Lib.hid ((Below.refl _ _).drew.trans hb10); have HSMR := Lib.hid hsm; clear hsm hb10; (try dsimp only))
                refine hK.out _ _ ?_ (fun hHd5 => ?_)
                ·(try dsimp only); first | exact HS9.out _ (Below.refl _ _).drew | exact HS9.out _ HB10.out | exact S26.set (HS9.out _ HB10.out) hne9 (by omega) _ _ _ _ | exact S26.set (HS9.out _ (Below.refl _ _).drew) hne9 (by omega) _ _ _ _
                clear hK K hHd4
                (try simp only [Act.put]); (try simp only [List.setIfInBounds_toArray]); (try simp only [List.set_cons_succ, List.set_cons_zero])
                refine wpAnyH_take (i := 12) (v := ?_) rfl (by kernel_rfl) (by kernel_rfl) (by kernel_rfl) (fun _ _ _ h => h) (Or.inl ⟨by rfl, ?_⟩) (by with_reducible assumption) ?_
                rotate_left
                ·intro w hSw; (try dsimp only at hSw); go_simp <;> with_reducible rfl
                (try simp only [Act.put]); (try simp only [List.setIfInBounds_toArray]); (try simp only [List.set_cons_succ, List.set_cons_zero])
                refine wpAnyH_ready (rs := [13]) (by kernel_rfl) (by simp) ?_
                refine AllReadyH.cons (o := _) rfl (fun K hK => ?_) ?_
                ·(obtain ⟨⟨⟨c0, c1', c2', c3'⟩, c4'⟩, ⟨q0, q1, q2, q3⟩, _⟩ := HS9.out _ HB10.out; obtain ⟨_, y0, y1, y2, y3⟩ := HW9.out _ HB10.out; go_simp)
                 refine hK.out _ _ ?_ (fun hHd6 => ?_)
                 ·(try dsimp only); first | exact HS9.out _ (Below.refl _ _).drew | exact HS9.out _ HB10.out | exact S26.set (HS9.out _ HB10.out) hne9 (by omega) _ _ _ _ | exact S26.set (HS9.out _ (Below.refl _ _).drew) hne9 (by omega) _ _ _ _
                 clear hK K hHd5
                 (try simp only [Act.put]); (try simp only [List.setIfInBounds_toArray]); (try simp only [List.set_cons_succ, List.set_cons_zero])
                 refine wpAnyH_ready (rs := [14]) (by kernel_rfl) (by simp) ?_
                 refine AllReadyH.cons (o := _) rfl (fun K hK => ?_) ?_
                 ·go_simp
                  refine hK.out _ _ ?_ (fun hHd7 => ?_)
                  ·(try dsimp only); first | exact HS9.out _ (Below.refl _ _).drew | exact HS9.out _ HB10.out | exact S26.set (HS9.out _ HB10.out) hne9 (by omega) _ _ _ _ | exact S26.set (HS9.out _ (Below.refl _ _).drew) hne9 (by omega) _ _ _ _
                  clear hK K hHd6
                  (try simp only [Act.put]); (try simp only [List.setIfInBounds_toArray]); (try simp only [List.set_cons_succ, List.set_cons_zero])
                  refine wpAnyH_done (by kernel_rfl) ?_ _
                  refine NoPanic.normal ?_
                  obtain ⟨z0, z1, z2, z3⟩ := (HW9.out _ HB10.out).2
                  have HRS : Hid (r = sm) := Lib.hid (HRR.out _ (by rw [HSMR.out]; exact ⟨fun h => ⟨fun e => (by cases e), h⟩, fun h => h.2⟩))
                  go_wp2
                  refine bodyPost_ret (v := .tuple #[.agg #[.int .i64 (k : Int), .string { data := #[] }, .int .i64 0, .slice A7 ql c7], .bool sm]) (by simp [results, Tryz.results35, go_sem, z0, z1, z2, z3]) rfl ?_
                  exact HFN.out sm _ _ _ _ _ HRS.out HB10.out
                 exact AllReadyH.nil
                exact AllReadyH.nil
               exact AllReadyH.nil
              exact AllReadyH.nil
             exact AllReadyH.nil
            exact AllReadyH.nil
           exact AllReadyH.nil
          | true =>
           by_cases hs7 : ql ≤ 7
           ·have hs1 : decide ((ql : Int) ≤ 7) = true := decide_eq_true (by omega)
            have hs2 : decide (ql ≤ 7) = true := decide_eq_true hs7
            refine wp_region_noPanic ?_
            refine wp_region_held_drew (S := (S26 w7.heap.size (w.heap.size + 2) (w.heap.size + 1) (.int .i64 (k : Int)) (.string { data := #[] }) (.int .i64 0) (.slice A7 ql c7) true W9)) (by kernel_rfl) ?_ (fun hHd0 => ?_)
            ·exact HS9.out _ (Below.refl _ _).drew
            refine wpAnyH_take (i := 0) (v := ?_) rfl (by kernel_rfl) (by kernel_rfl) (by kernel_rfl) (fun _ _ _ h => h) (Or.inl ⟨by rfl, ?_⟩) (by with_reducible assumption) ?_
            rotate_left
            ·intro w hSw; (try dsimp only at hSw); go_simp <;> with_reducible rfl
            (try simp only [Act.put]); (try simp only [List.setIfInBounds_toArray]); (try simp only [List.set_cons_succ, List.set_cons_zero])
            refine wpAnyH_take (i := 1) (v := ?_) rfl (by kernel_rfl) (by kernel_rfl) (by kernel_rfl) (fun _ _ _ h => h) (Or.inl ⟨by rfl, ?_⟩) (by with_reducible assumption) ?_
            rotate_left
            ·intro w hSw; (try dsimp only at hSw); go_simp <;> with_reducible rfl
            (try simp only [Act.put]); (try simp only [List.setIfInBounds_toArray]); (try simp only [List.set_cons_succ, List.set_cons_zero])
            refine wpAnyH_take (i := 2) (v := ?_) rfl (by kernel_rfl) (by kernel_rfl) (by kernel_rfl) (fun _ _ _ h => h) (Or.inl ⟨by rfl, ?_⟩) (by with_reducible assumption) ?_
            rotate_left
            ·intro w hSw; (try dsimp only at hSw); go_simp <;> with_reducible rfl
            (try simp only [Act.put]); (try simp only [List.setIfInBounds_toArray]); (try simp only [List.set_cons_succ, List.set_cons_zero])
            refine wpAnyH_take (i := 3) (v := ?_) rfl (by kernel_rfl) (by kernel_rfl) (by kernel_rfl) (fun _ _ _ h => h) (Or.inl ⟨by rfl, ?_⟩) (by with_reducible assumption) ?_
            rotate_left
            ·intro w hSw; (try dsimp only at hSw); go_simp <;> with_reducible rfl
            (try simp only [Act.put]); (try simp only [List.setIfInBounds_toArray]); (try simp only [List.set_cons_succ, List.set_cons_zero])
            refine wpAnyH_take (i := 4) (v := ?_) rfl (by kernel_rfl) (by kernel_rfl) (by kernel_rfl) (fun _ _ _ h => h) (Or.inl ⟨by rfl, ?_⟩) (by with_reducible assumption) ?_
            rotate_left
            ·intro w hSw; (try dsimp only at hSw); go_simp <;> with_reducible rfl
            (try simp only [Act.put]); (try simp only [List.setIfInBounds_toArray]); (try simp only [List.set_cons_succ, List.set_cons_zero])
            refine wpAnyH_ready (rs := [5]) (by kernel_rfl) (by simp) ?_
            refine AllReadyH.cons (o := _) rfl (fun K hK => ?_) ?_
            ·go_simp
             refine hK.out _ _ ?_ (fun hHd1 => ?_)
             ·(try dsimp only); first | exact HS9.out _ (Below.refl _ _).drew | exact HS9.out _ HB10.out | exact S26.set (HS9.out _ HB10.out) hne9 (by omega) _ _ _ _ | exact S26.set (HS9.out _ (Below.refl _ _).drew) hne9 (by omega) _ _ _ _
             clear hK K hHd0
             (try simp only [Act.put]); (try simp only [List.setIfInBounds_toArray]); (try simp only [List.set_cons_succ, List.set_cons_zero])
             refine wpAnyH_ready (rs := [6]) (by kernel_rfl) (by simp) ?_
             refine AllReadyH.cons (o := _) rfl (fun K hK => ?_) ?_
             ·go_simp
              refine hK.out _ _ ?_ (fun hHd2 => ?_)
              ·(try dsimp only); first | exact HS9.out _ (Below.refl _ _).drew | exact HS9.out _ HB10.out | exact S26.set (HS9.out _ HB10.out) hne9 (by omega) _ _ _ _ | exact S26.set (HS9.out _ (Below.refl _ _).drew) hne9 (by omega) _ _ _ _
              clear hK K hHd1
              (try simp only [Act.put]); (try simp only [List.setIfInBounds_toArray]); (try simp only [List.set_cons_succ, List.set_cons_zero])
              refine wpAnyH_ready (rs := [7]) (by kernel_rfl) (by simp) ?_
              refine AllReadyH.cons (o := _) rfl (fun K hK => ?_) ?_
              ·go_simp
               refine hK.out _ _ ?_ (fun hHd3 => ?_)
               ·(try dsimp only); first | exact HS9.out _ (Below.refl _ _).drew | exact HS9.out _ HB10.out | exact S26.set (HS9.out _ HB10.out) hne9 (by omega) _ _ _ _ | exact S26.set (HS9.out _ (Below.refl _ _).drew) hne9 (by omega) _ _ _ _
               clear hK K hHd2
               (try simp only [Act.put]); (try simp only [List.setIfInBounds_toArray]); (try simp only [List.set_cons_succ, List.set_cons_zero])
               refine wpAnyH_take (i := 8) (v := ?_) rfl (by kernel_rfl) (by kernel_rfl) (by kernel_rfl) (fun _ _ _ h => h) (Or.inl ⟨by rfl, ?_⟩) (by with_reducible assumption) ?_
               rotate_left
               ·intro w hSw; (try dsimp only at hSw); go_simp <;> with_reducible rfl
               (try simp only [Act.put]); (try simp only [List.setIfInBounds_toArray]); (try simp only [List.set_cons_succ, List.set_cons_zero])
               refine wpAnyH_take (i := 9) (v := ?_) rfl (by kernel_rfl) (by kernel_rfl) (by kernel_rfl) (fun _ _ _ h => h) (Or.inl ⟨by rfl, ?_⟩) (by with_reducible assumption) ?_
               rotate_left
               ·intro w hSw; (try dsimp only at hSw); go_simp <;> with_reducible rfl
               (try simp only [Act.put]); (try simp only [List.setIfInBounds_toArray]); (try simp only [List.set_cons_succ, List.set_cons_zero])
               refine wpAnyH_ready (rs := [10]) (by kernel_rfl) (by simp) ?_
               refine AllReadyH.cons (o := _) rfl (fun K hK => ?_) ?_
               ·go_simp
                refine hK.out _ _ ?_ (fun hHd4 => ?_)
                ·(try dsimp only); first | exact HS9.out _ (Below.refl _ _).drew | exact HS9.out _ HB10.out | exact S26.set (HS9.out _ HB10.out) hne9 (by omega) _ _ _ _ | exact S26.set (HS9.out _ (Below.refl _ _).drew) hne9 (by omega) _ _ _ _
                clear hK K hHd3
                (try simp only [Act.put]); (try simp only [List.setIfInBounds_toArray]); (try simp only [List.set_cons_succ, List.set_cons_zero])
                refine wpAnyH_ready (rs := [11]) (by kernel_rfl) (by simp) ?_
                refine AllReadyH.cons (o := _) rfl (fun K hK => ?_) ?_
                ·(go_simp; refine (HSM.out _ (Below.refl _ _).drew).mono ?_; rintro e w10 ⟨sm, rfl, hsm, hb10⟩; have HB10 : Hid (Below W9.heap.size W9 w10) := Lib.hid ((Below.refl _ _).drew.trans hb10); have HSMR := Lib.hid hsm; clear hsm hb10; (try dsimp only))
                 refine hK.out _ _ ?_ (fun hHd5 => ?_)
                 ·(try dsimp only); first | exact HS9.out _ (Below.refl _ _).drew | exact HS9.out _ HB10.out | exact S26.set (HS9.out _ HB10.out) hne9 (by omega) _ _ _ _ | exact S26.set (HS9.out _ (Below.refl _ _).drew) hne9 (by omega) _ _ _ _
                 clear hK K hHd4
                 (try simp only [Act.put]); (try simp only [List.setIfInBounds_toArray]); (try simp only [List.set_cons_succ, List.set_cons_zero])
                 refine wpAnyH_take (i := 12) (v := ?_) rfl (by kernel_rfl) (by kernel_rfl) (by kernel_rfl) (fun _ _ _ h => h) (Or.inl ⟨by rfl, ?_⟩) (by with_reducible assumption) ?_
                 rotate_left
                 ·intro w hSw; (try dsimp only at hSw); go_simp <;> with_reducible rfl
                 (try simp only [Act.put]); (try simp only [List.setIfInBounds_toArray]); (try simp only [List.set_cons_succ, List.set_cons_zero])
                 refine wpAnyH_ready (rs := [13]) (by kernel_rfl) (by simp) ?_
                 refine AllReadyH.cons (o := _) rfl (fun K hK => ?_) ?_
                 ·(obtain ⟨⟨⟨c0, c1', c2', c3'⟩, c4'⟩, ⟨q0, q1, q2, q3⟩, _⟩ := HS9.out _ HB10.out; obtain ⟨_, y0, y1, y2, y3⟩ := HW9.out _ HB10.out; go_simp)
                  refine hK.out _ _ ?_ (fun hHd6 => ?_)
                  ·(try dsimp only); first | exact HS9.out _ (Below.refl _ _).drew | exact HS9.out _ HB10.out | exact S26.set (HS9.out _ HB10.out) hne9 (by omega) _ _ _ _ | exact S26.set (HS9.out _ (Below.refl _ _).drew) hne9 (by omega) _ _ _ _
                  clear hK K hHd5
                  (try simp only [Act.put]); (try simp only [List.setIfInBounds_toArray]); (try simp only [List.set_cons_succ, List.set_cons_zero])
                  refine wpAnyH_ready (rs := [14]) (by kernel_rfl) (by simp) ?_
                  refine AllReadyH.cons (o := _) rfl (fun K hK => ?_) ?_
                  ·go_simp
                   refine hK.out _ _ ?_ (fun hHd7 => ?_)
                   ·(try dsimp only); first | exact HS9.out _ (Below.refl _ _).drew | exact HS9.out _ HB10.out | exact S26.set (HS9.out _ HB10.out) hne9 (by omega) _ _ _ _ | exact S26.set (HS9.out _ (Below.refl _ _).drew) hne9 (by omega) _ _ _ _
                   clear hK K hHd6
                   (try simp only [Act.put]); (try simp only [List.setIfInBounds_toArray]); (try simp only [List.set_cons_succ, List.set_cons_zero])
                   refine wpAnyH_done (by kernel_rfl) ?_ _
                   refine NoPanic.normal ?_
                   obtain ⟨z0, z1, z2, z3⟩ := (HW9.out _ HB10.out).2
                   have HRS : Hid (r = sm) := Lib.hid (HRR.out _ (by rw [HSMR.out]; exact ⟨fun h => ⟨fun _ => hs7, h⟩, fun h => h.2⟩))
                   go_wp2
                   refine bodyPost_ret (v := .tuple #[.agg #[.int .i64 (k : Int), .string { data := #[] }, .int .i64 0, .slice A7 ql c7], .bool sm]) (by simp [results, Tryz.results35, go_sem, z0, z1, z2, z3]) rfl ?_
                   exact HFN.out sm _ _ _ _ _ HRS.out HB10.out
                  exact AllReadyH.nil
                 exact AllReadyH.nil
                exact AllReadyH.nil
               exact AllReadyH.nil
              exact AllReadyH.nil
             exact AllReadyH.nil
            exact AllReadyH.nil
           ·have hs1 : decide ((ql : Int) ≤ 7) = false := decide_eq_false (by omega)
            have hs2 : decide (ql ≤ 7) = false := decide_eq_false hs7
            have HS7 := Lib.hid hs7
            clear hs7
            refine wp_region_noPanic ?_
            refine wp_region_held_drew (S := (S26 w7.heap.size (w.heap.size + 2) (w.heap.size + 1) (.int .i64 (k : Int)) (.string { data := #[] }) (.int .i64 0) (.slice A7 ql c7) true W9)) (by kernel_rfl) ?_ (fun hHd0 => ?_)
            ·exact HS9.out _ (Below.refl _ _).drew
            refine wpAnyH_take (i := 0) (v := ?_) rfl (by kernel_rfl) (by kernel_rfl) (by kernel_rfl) (fun _ _ _ h => h) (Or.inl ⟨by rfl, ?_⟩) (by with_reducible assumption) ?_
            rotate_left
            ·intro w hSw; (try dsimp only at hSw); go_simp <;> with_reducible rfl
            (try simp only [Act.put]); (try simp only [List.setIfInBounds_toArray]); (try simp only [List.set_cons_succ, List.set_cons_zero])
            refine wpAnyH_take (i := 1) (v := ?_) rfl (by kernel_rfl) (by kernel_rfl) (by kernel_rfl) (fun _ _ _ h => h) (Or.inl ⟨by rfl, ?_⟩) (by with_reducible assumption) ?_
            rotate_left
            ·intro w hSw; (try dsimp only at hSw); go_simp <;> with_reducible rfl
            (try simp only [Act.put]); (try simp only [List.setIfInBounds_toArray]); (try simp only [List.set_cons_succ, List.set_cons_zero])
            refine wpAnyH_take (i := 2) (v := ?_) rfl (by kernel_rfl) (by kernel_rfl) (by kernel_rfl) (fun _ _ _ h => h) (Or.inl ⟨by rfl, ?_⟩) (by with_reducible assumption) ?_
            rotate_left
            ·intro w hSw; (try dsimp only at hSw); go_simp <;> with_reducible rfl
            (try simp only [Act.put]); (try simp only [List.setIfInBounds_toArray]); (try simp only [List.set_cons_succ, List.set_cons_zero])
            refine wpAnyH_take (i := 3) (v := ?_) rfl (by kernel_rfl) (by kernel_rfl) (by kernel_rfl) (fun _ _ _ h => h) (Or.inl ⟨by rfl, ?_⟩) (by with_reducible assumption) ?_
            rotate_left
            ·intro w hSw; (try dsimp only at hSw); go_simp <;> with_reducible rfl
            (try simp only [Act.put]); (try simp only [List.setIfInBounds_toArray]); (try simp only [List.set_cons_succ, List.set_cons_zero])
            refine wpAnyH_take (i := 4) (v := ?_) rfl (by kernel_rfl) (by kernel_rfl) (by kernel_rfl) (fun _ _ _ h => h) (Or.inl ⟨by rfl, ?_⟩) (by with_reducible assumption) ?_
            rotate_left
            ·intro w hSw; (try dsimp only at hSw); go_simp <;> with_reducible rfl
            (try simp only [Act.put]); (try simp only [List.setIfInBounds_toArray]); (try simp only [List.set_cons_succ, List.set_cons_zero])
            refine wpAnyH_ready (rs := [5]) (by kernel_rfl) (by simp) ?_
            refine AllReadyH.cons (o := _) rfl (fun K hK => ?_) ?_
            ·go_simp
             refine hK.out _ _ ?_ (fun hHd1 => ?_)
             ·(try dsimp only); first | (with_reducible exact HS9.out _ (Below.refl _ _).drew) | exact S26.set (HS9.out _ (Below.refl _ _).drew) hne9 (by omega) _ _ _ _
             clear hK K hHd0
             (try simp only [Act.put]); (try simp only [List.setIfInBounds_toArray]); (try simp only [List.set_cons_succ, List.set_cons_zero])
             refine wpAnyH_ready (rs := [6]) (by kernel_rfl) (by simp) ?_
             refine AllReadyH.cons (o := _) rfl (fun K hK => ?_) ?_
             ·go_simp
              refine hK.out _ _ ?_ (fun hHd2 => ?_)
              ·(try dsimp only); first | (with_reducible exact HS9.out _ (Below.refl _ _).drew) | exact S26.set (HS9.out _ (Below.refl _ _).drew) hne9 (by omega) _ _ _ _
              clear hK K hHd1
              (try simp only [Act.put]); (try simp only [List.setIfInBounds_toArray]); (try simp only [List.set_cons_succ, List.set_cons_zero])
              refine wpAnyH_ready (rs := [7]) (by kernel_rfl) (by simp) ?_
              refine AllReadyH.cons (o := _) rfl (fun K hK => ?_) ?_
              ·go_simp
               refine hK.out _ _ ?_ (fun hHd3 => ?_)
               ·(try dsimp only); first | (with_reducible exact HS9.out _ (Below.refl _ _).drew) | exact S26.set (HS9.out _ (Below.refl _ _).drew) hne9 (by omega) _ _ _ _
               clear hK K hHd2
               (try simp only [Act.put]); (try simp only [List.setIfInBounds_toArray]); (try simp only [List.set_cons_succ, List.set_cons_zero])
               refine wpAnyH_ready (rs := [8]) (by kernel_rfl) (by simp) ?_
               refine AllReadyH.cons (o := _) rfl (fun K hK => ?_) ?_
               ·go_simp
                refine hK.out _ _ ?_ (fun hHd4 => ?_)
                ·(try dsimp only); first | (with_reducible exact HS9.out _ (Below.refl _ _).drew) | exact S26.set (HS9.out _ (Below.refl _ _).drew) hne9 (by omega) _ _ _ _
                clear hK K hHd3
                (try simp only [Act.put]); (try simp only [List.setIfInBounds_toArray]); (try simp only [List.set_cons_succ, List.set_cons_zero])
                refine wpAnyH_ready (rs := [9]) (by kernel_rfl) (by simp) ?_
                refine AllReadyH.cons (o := _) rfl (fun K hK => ?_) ?_
                ·go_simp
                 refine hK.out _ _ ?_ (fun hHd5 => ?_)
                 ·(try dsimp only); first | (with_reducible exact HS9.out _ (Below.refl _ _).drew) | exact S26.set (HS9.out _ (Below.refl _ _).drew) hne9 (by omega) _ _ _ _
                 clear hK K hHd4
                 (try simp only [Act.put]); (try simp only [List.setIfInBounds_toArray]); (try simp only [List.set_cons_succ, List.set_cons_zero])
                 refine wpAnyH_ready (rs := [10]) (by kernel_rfl) (by simp) ?_
                 refine AllReadyH.cons (o := _) rfl (fun K hK => ?_) ?_
                 ·(rw [if_neg (fun hw => absurd (hw.symm.trans (by kernel_rfl) : true = false) (by decide))])
                  refine hK.out _ _ ?_ (fun hHd6 => ?_)
                  ·(try dsimp only); first | (with_reducible exact HS9.out _ (Below.refl _ _).drew) | exact S26.set (HS9.out _ (Below.refl _ _).drew) hne9 (by omega) _ _ _ _
                  clear hK K hHd5
                  (try simp only [Act.put]); (try simp only [List.setIfInBounds_toArray]); (try simp only [List.set_cons_succ, List.set_cons_zero])
                  refine wpAnyH_ready (rs := [11]) (by kernel_rfl) (by simp) ?_
                  refine AllReadyH.cons (o := _) rfl (fun K hK => ?_) ?_
                  ·(rw [if_neg (fun hw => absurd (hw.symm.trans (by kernel_rfl) : true = false) (by decide))])
                   refine hK.out _ _ ?_ (fun hHd7 => ?_)
                   ·(try dsimp only); first | (with_reducible exact HS9.out _ (Below.refl _ _).drew) | exact S26.set (HS9.out _ (Below.refl _ _).drew) hne9 (by omega) _ _ _ _
                   clear hK K hHd6
                   (try simp only [Act.put]); (try simp only [List.setIfInBounds_toArray]); (try simp only [List.set_cons_succ, List.set_cons_zero])
                   refine wpAnyH_take (i := 12) (v := ?_) rfl (by kernel_rfl) (by kernel_rfl) (by kernel_rfl) (fun _ _ _ h => h) (Or.inl ⟨by rfl, ?_⟩) (by with_reducible assumption) ?_
                   rotate_left
                   ·intro w hSw; (try dsimp only at hSw); go_simp <;> with_reducible rfl
                   (try simp only [Act.put]); (try simp only [List.setIfInBounds_toArray]); (try simp only [List.set_cons_succ, List.set_cons_zero])
                   refine wpAnyH_ready (rs := [13]) (by kernel_rfl) (by simp) ?_
                   refine AllReadyH.cons (o := _) rfl (fun K hK => ?_) ?_
                   ·(obtain ⟨⟨⟨c0, c1', c2', c3'⟩, c4'⟩, ⟨q0, q1, q2, q3⟩, _⟩ := HS9.out _ (Below.refl _ _); obtain ⟨_, y0, y1, y2, y3⟩ := HW9.out _ (Below.refl _ _); have q0' : W9.drew.frozen? ⟨w.heap.size + 1, 0, none⟩ = false := q0; have q1' : W9.drew.frozen? ⟨w.heap.size + 1, 1, none⟩ = false := q1; have q2' : W9.drew.frozen? ⟨w.heap.size + 1, 2, none⟩ = false := q2; have q3' : W9.drew.frozen? ⟨w.heap.size + 1, 3, none⟩ = false := q3; have y0' : W9.drew.cell? ⟨w.heap.size + 1, 0, none⟩ = _ := y0; have y1' : W9.drew.cell? ⟨w.heap.size + 1, 1, none⟩ = _ := y1; have y2' : W9.drew.cell? ⟨w.heap.size + 1, 2, none⟩ = _ := y2; have y3' : W9.drew.cell? ⟨w.heap.size + 1, 3, none⟩ = _ := y3; go_simp)
                    refine hK.out _ _ ?_ (fun hHd8 => ?_)
                    ·(try dsimp only); first | (with_reducible exact HS9.out _ (Below.refl _ _).drew) | exact S26.set (HS9.out _ (Below.refl _ _).drew) hne9 (by omega) _ _ _ _
                    clear hK K hHd7
                    (try simp only [Act.put]); (try simp only [List.setIfInBounds_toArray]); (try simp only [List.set_cons_succ, List.set_cons_zero])
                    refine wpAnyH_ready (rs := [14]) (by kernel_rfl) (by simp) ?_
                    refine AllReadyH.cons (o := _) rfl (fun K hK => ?_) ?_
                    ·go_simp
                     refine hK.out _ _ ?_ (fun hHd9 => ?_)
                     ·(try dsimp only); first | (with_reducible exact HS9.out _ (Below.refl _ _).drew) | exact S26.set (HS9.out _ (Below.refl _ _).drew) hne9 (by omega) _ _ _ _
                     clear hK K hHd8
                     (try simp only [Act.put]); (try simp only [List.setIfInBounds_toArray]); (try simp only [List.set_cons_succ, List.set_cons_zero])
                     refine wpAnyH_done (by kernel_rfl) ?_ _
                     refine NoPanic.normal ?_
                     obtain ⟨x0, x1, x2, x3⟩ := (HW9.out _ (Below.refl _ _)).2
                     obtain ⟨z0, z1, z2, z3⟩ := (HW9.out _ (Below.refl _ _).drew).2
                     have HRS : Hid (r = false) := Lib.hid (HRR.out _ (⟨(fun h => by cases h), (fun h => absurd (h.1 rfl) HS7.out)⟩))
                     go_wp2
                     refine bodyPost_ret (v := .tuple #[.agg #[.int .i64 (k : Int), .string { data := #[] }, .int .i64 0, .slice A7 ql c7], .bool false]) (by simp [results, Tryz.results35, go_sem, x0, x1, x2, x3]) rfl ?_
                     exact HFN.out false _ _ _ _ _ HRS.out (Below.refl _ _).drew
                    exact AllReadyH.nil
                   exact AllReadyH.nil
                  exact AllReadyH.nil
                 exact AllReadyH.nil
                exact AllReadyH.nil
               exact AllReadyH.nil
              exact AllReadyH.nil
             exact AllReadyH.nil
            exact AllReadyH.nil
end Go.Proofs.YtkkmjaggebjcbaaGreat.tml
