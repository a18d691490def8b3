/-
  CONTRACTS OF THE MODEL'S l5Same AND OccursIn, AND OF THE LAWS' same.
-/
import Derived.Test.YtejmfiocdecigaaTermv
import Derived.Test.YtejmfiocdecigaaTermx
namespace Go.Proofs.Ytejmfiocdecigaa.termvo
open Go.ChangeShapes Go.WideShapes Go.ChangeAt Go.RowKit
open mem dec rowl trm trmv terml termb termt termu termv
open termx (aggT)

/-- spec.l5Same -/
theorem same_any {n m : Nat} (t u : TermM) (va vb : Value) (w : World) {lo lo' : Nat} (ha : HasTs n lo w va t.args) (hb : HasTs m lo' w vb u.args) (r : Bool) (hr : decide (cmp t u = 0) = r) :
    Calls Try.prog 53 #[aggT t va, aggT u vb] w fun e w' => e = .returned (.bool r) ∧ Below w.heap.size w w' := by
  obtain ⟨A, ca, rfl, _⟩ := HasR.shape ha rfl
  obtain ⟨B, cb, rfl, _⟩ := HasR.shape hb rfl
  have HL := Lib.hid (fun W (hW : Below w.heap.size w W) => scmp_any t u _ _ W (ha.below (Nat.le_refl _) hW) (hb.below (Nat.le_refl _) hW))
  obtain ⟨c, hc⟩ : ∃ c, c = cmp t u := ⟨_, rfl⟩
  rw [← hc] at hr HL
  unfold aggT
  obtain ⟨k, hk⟩ : ∃ k, k = t.args.length := ⟨_, rfl⟩
  obtain ⟨m, hm⟩ : ∃ m, m = u.args.length := ⟨_, rfl⟩
  rw [← hk] at HL ⊢
  rw [← hm] at HL ⊢
  have HRB : Hid (r = (c == 0)) := Lib.hid (by rw [← hr, Bool.eq_iff_iff]; simp)
  clear ha hb hc hk hm hr
  go_enter Try.func53, Try.ntmps53
  go_wp2_with fail
  have hgb : Below w.heap.size w ((w.alloc (.cells #[.int .i64 t.op, .string (bstr t.name), .int .i64 t.sort, .slice A k ca] 26)).alloc (.cells #[.int .i64 u.op, .string (bstr u.name), .int .i64 u.sort, .slice B m cb] 26)) := ((Below.refl _ _).alloc (Nat.le_refl _) _).alloc (by simp) _
  refine (HL.out _ hgb).mono ?_
  rintro e w2 ⟨rfl, hb2⟩
  have hgb2 := hgb.trans (hb2.mono hgb.size)
  clear hb2 hgb
  go_wp2
  go_ret
  exact ⟨ret_bool HRB.out.symm, hgb2⟩
/-- laws.same -/
theorem lsame_any {n m : Nat} (t u : TermM) (va vb : Value) (w : World) {lo lo' : Nat} (ha : HasTs n lo w va t.args) (hb : HasTs m lo' w vb u.args) (r : Bool) (hr : decide (cmp t u = 0) = r) :
    Calls Try.prog 45 #[aggT t va, aggT u vb] w fun e w' => e = .returned (.bool r) ∧ Below w.heap.size w w' := by
  obtain ⟨A, ca, rfl, _⟩ := HasR.shape ha rfl
  obtain ⟨B, cb, rfl, _⟩ := HasR.shape hb rfl
  have HL := Lib.hid (fun W (hW : Below w.heap.size w W) => scmp_any t u _ _ W (ha.below (Nat.le_refl _) hW) (hb.below (Nat.le_refl _) hW))
  obtain ⟨c, hc⟩ : ∃ c, c = cmp t u := ⟨_, rfl⟩
  rw [← hc] at hr HL
  unfold aggT
  obtain ⟨k, hk⟩ : ∃ k, k = t.args.length := ⟨_, rfl⟩
  obtain ⟨m, hm⟩ : ∃ m, m = u.args.length := ⟨_, rfl⟩
  rw [← hk] at HL ⊢
  rw [← hm] at HL ⊢
  have HRB : Hid (r = (c == 0)) := Lib.hid (by rw [← hr, Bool.eq_iff_iff]; simp)
  clear ha hb hc hk hm hr
  go_enter Try.func45, Try.ntmps45
  go_wp2_with fail
  have hgb : Below w.heap.size w ((w.alloc (.cells #[.int .i64 t.op, .string (bstr t.name), .int .i64 t.sort, .slice A k ca] 26)).alloc (.cells #[.int .i64 u.op, .string (bstr u.name), .int .i64 u.sort, .slice B m cb] 26)) := ((Below.refl _ _).alloc (Nat.le_refl _) _).alloc (by simp) _
  refine (HL.out _ hgb).mono ?_
  rintro e w2 ⟨rfl, hb2⟩
  have hgb2 := hgb.trans (hb2.mono hgb.size)
  clear hb2 hgb
  go_wp2
  go_ret
  exact ⟨ret_bool HRB.out.symm, hgb2⟩
/-- spec.OccursIn, at arguments of at most this depth -/
def OccT (n : Nat) : Prop := ∀ (m : Nat) (x t : TermM) (vx vt : Value) (w : World) (lo lo' : Nat), HasTs m lo w vx x.args → HasTs n lo' w vt t.args →
  Calls Try.prog 19 #[aggT x vx, aggT t vt] w fun e w' => e = .returned (.bool (occT x t)) ∧ Below w.heap.size w w'
theorem occ_eq (x t : TermM) : occT x t = (decide (cmp x t = 0) || t.args.any (occT x)) := by cases t; exact occT_mk _ _ _ _ _
theorem any_hit {L : List TermM} {f : TermM → Bool} {k : Nat} (hk : k < L.length) (h : f (L.getD k default) = true) : L.any f = true := by
  rw [List.any_eq_true]
  exact ⟨_, by rw [getD_at hk]; exact List.getElem_mem hk, h⟩
theorem any_none {L : List TermM} {f : TermM → Bool} (h : ∀ j, j < L.length → f (L.getD j default) = false) : L.any f = false := by
  rw [List.any_eq_false]
  intro a ha
  obtain ⟨j, hj, rfl⟩ := List.getElem_of_mem ha
  rw [← getD_at hj, h j hj]
  simp
set_option maxRecDepth 50000 in
set_option maxHeartbeats 8000000 in
theorem occT_step {n : Nat} (hS : ∀ k, n = k + 1 → OccT k) : OccT n := by
  intro m x t vx vt w lo lo' hx ht
  obtain ⟨P, hP⟩ : ∃ N, N = x.args.length := ⟨_, rfl⟩
  obtain ⟨N, hN⟩ : ∃ N, N = t.args.length := ⟨_, rfl⟩
  obtain ⟨A, ca, rfl, hx⟩ := HasR.shape hx hP.symm
  obtain ⟨B, cb, rfl, ht⟩ := HasR.shape ht hN.symm
  have hNm := ht.len.2.1
  obtain ⟨r, hr⟩ : ∃ r, r = decide (cmp x t = 0) := ⟨_, rfl⟩
  have HSM := Lib.hid (fun W (hW : Below w.heap.size w W) => same_any x t _ _ W (hx.below (Nat.le_refl _) hW) (ht.below (Nat.le_refl _) hW) r hr.symm)
  have HRC : Hid (∀ W (_ : Below w.heap.size w W) k', n = k' + 1 → ∀ u vu lo2, HasTs k' lo2 W vu u.args → Calls Try.prog 19 #[aggT x (.slice A P ca), aggT u vu] W fun e w' => e = .returned (.bool (occT x u)) ∧ Below W.heap.size W w') :=
    Lib.hid (fun W hW k' hk u vu lo2 hu => hS k' hk m x u _ vu W _ _ (hx.below (Nat.le_refl _) hW) hu)
  obtain ⟨z, hz⟩ : ∃ z, z = occT x t := ⟨_, rfl⟩
  have HZ : Hid (z = (r || t.args.any (occT x))) := Lib.hid (by rw [hz, hr]; exact occ_eq x t)
  have HB := Lib.hid ht
  obtain ⟨L, hL⟩ : ∃ L, L = t.args := ⟨_, rfl⟩
  rw [← hz]
  rw [← hL] at HZ HB hN
  have HN := Lib.hid hN
  unfold aggT at HSM HRC ⊢
  obtain ⟨xo, hxo⟩ : ∃ q, q = x.op := ⟨_, rfl⟩
  obtain ⟨xn, hxn⟩ : ∃ q, q = x.name := ⟨_, rfl⟩
  obtain ⟨xs, hxs⟩ : ∃ q, q = x.sort := ⟨_, rfl⟩
  obtain ⟨to, hto⟩ : ∃ q, q = t.op := ⟨_, rfl⟩
  obtain ⟨tn, htn⟩ : ∃ q, q = t.name := ⟨_, rfl⟩
  obtain ⟨ts, hts⟩ : ∃ q, q = t.sort := ⟨_, rfl⟩
  rw [← hto, ← htn, ← hts, ← hxo, ← hxn, ← hxs] at HSM
  rw [← hxo, ← hxn, ← hxs] at HRC
  rw [← hto, ← htn, ← hts, ← hxo, ← hxn, ← hxs]
  clear hx ht hS hP hN hz hr hL hto htn hts hxo hxn hxs
  go_enter Try.func19, Try.ntmps19
  go_wp2_with fail
  have hb0 : Below w.heap.size w ((w.alloc (.cells #[.int .i64 xo, .string (bstr xn), .int .i64 xs, .slice A P ca] 26)).alloc (.cells #[.int .i64 to, .string (bstr tn), .int .i64 ts, .slice B N cb] 26)) := ((Below.refl _ _).alloc (Nat.le_refl _) _).alloc (by simp) _
  have hs0 : ((w.alloc (.cells #[.int .i64 xo, .string (bstr xn), .int .i64 xs, .slice A P ca] 26)).alloc (.cells #[.int .i64 to, .string (bstr tn), .int .i64 ts, .slice B N cb] 26)).heap.size = w.heap.size + 2 := by simp
  have x0 : ((w.alloc (.cells #[.int .i64 xo, .string (bstr xn), .int .i64 xs, .slice A P ca] 26)).alloc (.cells #[.int .i64 to, .string (bstr tn), .int .i64 ts, .slice B N cb] 26)).cell? ⟨w.heap.size, 0, none⟩ = some (.int .i64 xo) := by simp
  have x1 : ((w.alloc (.cells #[.int .i64 xo, .string (bstr xn), .int .i64 xs, .slice A P ca] 26)).alloc (.cells #[.int .i64 to, .string (bstr tn), .int .i64 ts, .slice B N cb] 26)).cell? ⟨w.heap.size, 1, none⟩ = some (.string (bstr xn)) := by simp
  have x2 : ((w.alloc (.cells #[.int .i64 xo, .string (bstr xn), .int .i64 xs, .slice A P ca] 26)).alloc (.cells #[.int .i64 to, .string (bstr tn), .int .i64 ts, .slice B N cb] 26)).cell? ⟨w.heap.size, 2, none⟩ = some (.int .i64 xs) := by simp
  have x3 : ((w.alloc (.cells #[.int .i64 xo, .string (bstr xn), .int .i64 xs, .slice A P ca] 26)).alloc (.cells #[.int .i64 to, .string (bstr tn), .int .i64 ts, .slice B N cb] 26)).cell? ⟨w.heap.size, 3, none⟩ = some (.slice A P ca) := by simp
  have y3 : ((w.alloc (.cells #[.int .i64 xo, .string (bstr xn), .int .i64 xs, .slice A P ca] 26)).alloc (.cells #[.int .i64 to, .string (bstr tn), .int .i64 ts, .slice B N cb] 26)).cell? ⟨w.heap.size + 1, 3, none⟩ = some (.slice B N cb) := by simp
  generalize (w.alloc (.cells #[.int .i64 xo, .string (bstr xn), .int .i64 xs, .slice A P ca] 26)).alloc (.cells #[.int .i64 to, .string (bstr tn), .int .i64 ts, .slice B N cb] 26) = W at hb0 hs0 x0 x1 x2 x3 y3 ⊢
  refine (HSM.out _ hb0).mono ?_
  rintro e w1 ⟨rfl, hb1⟩
  have hbw1 := hb0.trans (hb1.mono hb0.size)
  have hs1 : w.heap.size + 1 < w1.heap.size := by have := hb1.size; omega
  have kx : ∀ o, W.cell? ⟨w.heap.size, o, none⟩ = w1.cell? ⟨w.heap.size, o, none⟩ := fun o => (hb1.cell (p := ⟨w.heap.size, o, none⟩) (by show w.heap.size < _; omega)).symm
  rw [kx] at x0 x1 x2 x3
  rw [← hb1.cell (p := ⟨w.heap.size + 1, 3, none⟩) (by show w.heap.size + 1 < _; omega)] at y3
  clear hb1 kx
  cases r with
  | true =>
    have HR : Hid (z = true) := Lib.hid (by rw [HZ.out]; rfl)
    go_wp2
    go_ret
    exact ⟨ret_bool HR.out.symm, hbw1⟩
  | false =>
    go_wp2
    go_loopw [5] (fun i wr => ∃ (k : Nat), k ≤ N ∧ i = .int .i64 k ∧ Hid (∀ j, j < k → occT x (L.getD j default) = false) ∧ Below w1.heap.size w1 wr) (fun i _ => N - (intOf i).toNat)
    case atStart => exact ⟨0, Nat.zero_le _, rfl, Lib.hid (fun j hj => by omega), Below.refl _ _⟩
    case round =>
      obtain ⟨k, hkN, rfl, HF, hbel⟩ := hrel
      have hbw := hbw1.trans (hbel.mono hbw1.size)
      have y3r := (hbel.cell (p := ⟨w.heap.size + 1, 3, none⟩) hs1).trans y3
      by_cases hk : k < N
      · obtain ⟨k', g, o, A2, a2, hnk, rfl, _, hg, c0, c1, c2, c3, hh, _⟩ := term_at HB.out hk
        have hx1 : w.heap.size + 1 < wr.heap.size := Nat.lt_of_lt_of_le hs1 hbel.size
        have hx0 : w.heap.size < wr.heap.size := by omega
        have hg2 : g < wr.heap.size := Nat.lt_of_lt_of_le hg hbw.size
        have kx : ∀ o, w1.cell? ⟨w.heap.size, o, none⟩ = wr.cell? ⟨w.heap.size, o, none⟩ := fun o => (hbel.cell (p := ⟨w.heap.size, o, none⟩) (by show w.heap.size < _; omega)).symm
        have qa : ∀ o, w.cell? ⟨g, o, none⟩ = wr.cell? ⟨g, o, none⟩ := fun o => (hbw.cell (p := ⟨g, o, none⟩) hg).symm
        rw [kx] at x0 x1 x2 x3
        rw [qa] at c0 c1 c2 c3
        obtain ⟨u, hu⟩ : ∃ d, d = L.getD k default := ⟨_, rfl⟩
        rw [← hu] at c0 c1 c2 c3 hh
        obtain ⟨r, hr⟩ : ∃ r, r = occT x u := ⟨_, rfl⟩
        have HCC := Lib.hid (fun W' (hW' : Below wr.heap.size wr W') => HRC.out W' (hbw.trans (hW'.mono hbw.size)) k' hnk u _ _ (hh.below (Nat.le_refl _) (hbw.trans (hW'.mono hbw.size))))
        rw [← hr] at HCC
        have HRU : Hid (r = occT x (L.getD k default)) := Lib.hid (by rw [hr, hu])
        obtain ⟨mm, hmm⟩ : ∃ m, m = u.args.length := ⟨_, rfl⟩
        rw [← hmm] at c3 HCC
        have hk1 : (0 : Int) ≤ (k : Int) := by omega
        have hk2 : (k : Int) < (N : Int) := by omega
        have r0 : ∀ t : BoxC (Below wr.heap.size wr), t.W.cell? ⟨g, o + k * 4, none⟩ = some (.int .i64 u.op) := fun t => t.cell c0 hg2
        have r1 : ∀ t : BoxC (Below wr.heap.size wr), t.W.cell? ⟨g, o + k * 4 + 1, none⟩ = some (.string (bstr u.name)) := fun t => t.cell c1 hg2
        have r2 : ∀ t : BoxC (Below wr.heap.size wr), t.W.cell? ⟨g, o + k * 4 + 2, none⟩ = some (.int .i64 u.sort) := fun t => t.cell c2 hg2
        have r3 : ∀ t : BoxC (Below wr.heap.size wr), t.W.cell? ⟨g, o + k * 4 + 3, none⟩ = some (.slice A2 mm a2) := fun t => t.cell c3 hg2
        have s0 : ∀ t : BoxC (Below wr.heap.size wr), t.W.cell? ⟨w.heap.size, 0, none⟩ = some (.int .i64 xo) := fun t => t.cell x0 hx0
        have s1 : ∀ t : BoxC (Below wr.heap.size wr), t.W.cell? ⟨w.heap.size, 1, none⟩ = some (.string (bstr xn)) := fun t => t.cell x1 hx0
        have s2 : ∀ t : BoxC (Below wr.heap.size wr), t.W.cell? ⟨w.heap.size, 2, none⟩ = some (.int .i64 xs) := fun t => t.cell x2 hx0
        have s3 : ∀ t : BoxC (Below wr.heap.size wr), t.W.cell? ⟨w.heap.size, 3, none⟩ = some (.slice A P ca) := fun t => t.cell x3 hx0
        have s4 : ∀ t : BoxC (Below wr.heap.size wr), t.W.cell? ⟨w.heap.size + 1, 3, none⟩ = some (.slice (some ⟨g, o, none⟩) N cb) := fun t => t.cell y3r hx1
        clear hh hu hr hmm qa kx hnk c0 c1 c2 c3 x0 x1 x2 x3
        go_wp2
        refine region_boxC (C := Below wr.heap.size wr) (by kernel_rfl) (by kernel_rfl) (Below.refl _ _).drew ?_
        have nb : Nonempty (BoxC (Below wr.heap.size wr)) := ⟨⟨_, Below.refl _ _⟩⟩
        repeat (go_big_quiet_step ((go_at_call 19; exact (HCC.out _ (BoxC.h _)).mono (fun _ _ h => ⟨h.1, BoxC.step _ h.2⟩))))
        refine wpQuiet_nil ?_
        rintro w5 ⟨t5, rfl⟩
        have hh := t5.h
        clear r0 r1 r2 r3 s0 s1 s2 s3 s4
        cases r with
        | true =>
          have HR : Hid (z = true) := Lib.hid (by rw [HZ.out, any_hit (by have := HN.out; omega) HRU.out.symm]; rfl)
          go_wp2
          go_ret
          exact ⟨ret_bool HR.out.symm, hbw.trans (hh.mono hbw.size)⟩
        | false =>
          go_wp2
          go_roundw
          case rel => exact ⟨k + 1, by omega, by go_num, Lib.hid (fun j hj => by
            by_cases e : j = k
            · subst e; exact HRU.out.symm
            · exact HF.out j (by omega)), hbel.trans (hh.mono hbel.size)⟩
          case measure => simp [intOf]; omega
      · obtain rfl : k = N := by omega
        have HR : Hid (z = false) := Lib.hid (by rw [HZ.out, any_none (fun j hj => HF.out j (by have := HN.out; omega))]; rfl)
        go_wp2
        go_ret
        exact ⟨ret_bool HR.out.symm, hbw⟩
theorem occOf_all : ∀ n, OccT n
  | 0 => occT_step (fun k h => by omega)
  | n + 1 => occT_step (fun k h => Nat.succ.inj h ▸ occOf_all n)
end Go.Proofs.Ytejmfiocdecigaa.termvo
