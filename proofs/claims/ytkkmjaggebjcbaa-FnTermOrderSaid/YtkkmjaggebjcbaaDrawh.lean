/-
  CONTRACTS OF laws.has AT ANY TERMS, AND OF laws.tail.
-/
import Derived.Test.YtkkmjaggebjcbaaDrawc
import Derived.Test.YtkkmjaggebjcbaaTermvo
namespace Go.Proofs.Ytkkmjaggebjcbaa.drawh
open Go.ChangeShapes Go.WideShapes Go.ChangeAt Go.RowKit
open mem rowl trm trmv terml termb termt termu termv termvo termx draw

set_option maxRecDepth 50000 in
set_option maxHeartbeats 4000000 in
/-- laws.has, at any row of terms -/
theorem hasT_any {nn : Nat} (L : List TermM) (t : TermM) (va : Value) (A0 : Option Addr) (n cap : Nat) (w : World) {lo lo' : Nat} (hn : n = L.length) (hn30 : n ≤ 1073741824) (hL : HasTs nn lo' w (.slice A0 n cap) L) (ht : HasTs nn lo w va t.args) (r : Bool) (hr : r = L.any (fun x => decide (cmp x t = 0))) :
    Calls Try.prog 10 #[.slice A0 n cap, aggT t va] w fun e w' => e = .returned (.bool r) ∧ Below w.heap.size w w' := by
  have HEL : Hid (∀ j, j < n → ∃ (g o : Nat) (A2 : Option Addr) (c2 : Nat), A0 = some ⟨g, o, none⟩ ∧ g < w.heap.size ∧ w.cell? ⟨g, o + j * 4, none⟩ = some (.int .i64 (L.getD j default).op) ∧ w.cell? ⟨g, o + j * 4 + 1, none⟩ = some (.string (bstr (L.getD j default).name)) ∧
      w.cell? ⟨g, o + j * 4 + 2, none⟩ = some (.int .i64 (L.getD j default).sort) ∧ w.cell? ⟨g, o + j * 4 + 3, none⟩ = some (.slice A2 (L.getD j default).args.length c2) ∧ (∀ W, Below w.heap.size w W → ∀ r, decide (cmp (L.getD j default) t = 0) = r → Calls Try.prog 24 #[aggT (L.getD j default) (.slice A2 (L.getD j default).args.length c2), aggT t va] W fun e w' => e = .returned (.bool r) ∧ Below W.heap.size W w')) := Lib.hid (by
    intro j hj
    obtain ⟨k, g, o, A2, c2, h0, h1, _, h2, h3, h4, h5, h6, h7, h8⟩ := term_at hL hj
    exact ⟨g, o, A2, c2, h1, h2, h3, h4, h5, h6, fun W hW r hr => lsame_any (L.getD j default) t _ va W (h7.below (Nat.le_refl _) hW) (ht.below (Nat.le_refl _) hW) r hr⟩)
  obtain ⟨A, c, rfl, _⟩ := HasR.shape ht rfl
  have HN := Lib.hid hn
  have HR := Lib.hid hr
  unfold aggT at HEL ⊢
  obtain ⟨q, hq⟩ : ∃ q, q = t.args.length := ⟨_, rfl⟩
  rw [← hq] at HEL ⊢
  obtain ⟨to, hto⟩ : ∃ q, q = t.op := ⟨_, rfl⟩
  obtain ⟨tn, htn⟩ : ∃ q, q = t.name := ⟨_, rfl⟩
  obtain ⟨ts, hts⟩ : ∃ q, q = t.sort := ⟨_, rfl⟩
  rw [← hto, ← htn, ← hts] at HEL ⊢
  clear hn hL ht hr hq hto htn hts
  go_enter Try.func10, Try.ntmps10
  go_wp2
  go_loopw [5] (fun v5 wr => ∃ k : Nat, v5 = .int .i64 k ∧ k ≤ n ∧ Hid (∀ j, j < k → cmp (L.getD j default) t ≠ 0) ∧ Below (w.heap.size + 1) (w.alloc (.cells #[.int .i64 to, .string (bstr tn), .int .i64 ts, .slice A q c] 26)) wr) (fun i _ => n - (intOf i).toNat)
  case atStart => exact ⟨0, rfl, Nat.zero_le _, Lib.hid (fun j h => by omega), Below.refl _ _⟩
  case round =>
    obtain ⟨k, rfl, hkn, HJ, hbel⟩ := hrel
    have hsz : w.heap.size + 1 ≤ wr.heap.size := by have := hbel.size; simp at this; omega
    have hbw : Below w.heap.size w wr := ((Below.refl _ _).alloc (Nat.le_refl _) _).trans (hbel.mono (by omega))
    have hx0 : w.heap.size < wr.heap.size := by omega
    have q0 : wr.cell? ⟨w.heap.size, 0, none⟩ = some (.int .i64 to) := (hbel.cell (p := ⟨w.heap.size, 0, none⟩) (Nat.lt_succ_self _)).trans (by simp)
    have q1 : wr.cell? ⟨w.heap.size, 1, none⟩ = some (.string (bstr tn)) := (hbel.cell (p := ⟨w.heap.size, 1, none⟩) (Nat.lt_succ_self _)).trans (by simp)
    have q2 : wr.cell? ⟨w.heap.size, 2, none⟩ = some (.int .i64 ts) := (hbel.cell (p := ⟨w.heap.size, 2, none⟩) (Nat.lt_succ_self _)).trans (by simp)
    have q3 : wr.cell? ⟨w.heap.size, 3, none⟩ = some (.slice A q c) := (hbel.cell (p := ⟨w.heap.size, 3, none⟩) (Nat.lt_succ_self _)).trans (by simp)
    have nb : Nonempty (BoxC (Below wr.heap.size wr)) := ⟨⟨_, Below.refl _ _⟩⟩
    by_cases hlt : k < n
    · obtain ⟨g, o, A2, c2, rfl, hgw, e0, e1, e2, e3, hcall⟩ := HEL.out k hlt
      obtain ⟨x, hx⟩ : ∃ t, t = L.getD k default := ⟨_, rfl⟩
      rw [← hx] at e0 e1 e2 e3 hcall
      have c0 := (hbw.cell (p := ⟨g, o + k * 4, none⟩) hgw).trans e0
      have c1 := (hbw.cell (p := ⟨g, o + k * 4 + 1, none⟩) hgw).trans e1
      have c2' := (hbw.cell (p := ⟨g, o + k * 4 + 2, none⟩) hgw).trans e2
      have c3 := (hbw.cell (p := ⟨g, o + k * 4 + 3, none⟩) hgw).trans e3
      have hgr : g < wr.heap.size := by omega
      have HX := Lib.hid hx
      obtain ⟨z, hz⟩ : ∃ z, z = decide (cmp x t = 0) := ⟨_, rfl⟩
      have HS1 := Lib.hid (fun W' (hW' : Below wr.heap.size wr W') => hcall W' (hbw.trans (hW'.mono hbw.size)) z hz.symm)
      have HZ := Lib.hid hz
      have r0 : ∀ t : BoxC (Below wr.heap.size wr), t.W.cell? ⟨g, o + k * 4, none⟩ = some (.int .i64 x.op) := fun t => t.cell c0 hgr
      have r1 : ∀ t : BoxC (Below wr.heap.size wr), t.W.cell? ⟨g, o + k * 4 + 1, none⟩ = some (.string (bstr x.name)) := fun t => t.cell c1 hgr
      have r2 : ∀ t : BoxC (Below wr.heap.size wr), t.W.cell? ⟨g, o + k * 4 + 2, none⟩ = some (.int .i64 x.sort) := fun t => t.cell c2' hgr
      have r3 : ∀ t : BoxC (Below wr.heap.size wr), t.W.cell? ⟨g, o + k * 4 + 3, none⟩ = some (.slice A2 x.args.length c2) := fun t => t.cell c3 hgr
      have s0 : ∀ t : BoxC (Below wr.heap.size wr), t.W.cell? ⟨w.heap.size, 0, none⟩ = some (.int .i64 to) := fun t => t.cell q0 hx0
      have s1 : ∀ t : BoxC (Below wr.heap.size wr), t.W.cell? ⟨w.heap.size, 1, none⟩ = some (.string (bstr tn)) := fun t => t.cell q1 hx0
      have s2 : ∀ t : BoxC (Below wr.heap.size wr), t.W.cell? ⟨w.heap.size, 2, none⟩ = some (.int .i64 ts) := fun t => t.cell q2 hx0
      have s3 : ∀ t : BoxC (Below wr.heap.size wr), t.W.cell? ⟨w.heap.size, 3, none⟩ = some (.slice A q c) := fun t => t.cell q3 hx0
      clear hx hz c0 c1 c2' c3 q0 q1 q2 q3 e0 e1 e2 e3 hcall
      have i1 : (0 : Int) ≤ (k : Int) := by omega
      have i2 : (k : Int) < (n : Int) := by omega
      go_wp2_with fail
      refine region_boxC (C := Below wr.heap.size wr) (by kernel_rfl) (by kernel_rfl) (Below.refl _ _).drew ?_
      repeat (go_big_quiet_step ((go_at_call 24; exact (HS1.out _ (BoxC.h _)).mono (fun _ _ h => ⟨h.1, BoxC.step _ h.2⟩))))
      refine wpQuiet_nil ?_
      rintro w5 ⟨t5, rfl⟩
      have hh := t5.h
      clear r0 r1 r2 r3 s0 s1 s2 s3
      cases z with
      | true =>
        have HRT : Hid (r = true) := Lib.hid (by
          rw [HR.out, List.any_eq_true]
          exact ⟨x, by rw [HX.out, getD_at (by have := HN.out; omega)]; exact List.getElem_mem _, HZ.out.symm⟩)
        go_wp2
        go_ret
        exact ⟨ret_bool HRT.out.symm, hbw.trans (hh.mono (by omega))⟩
      | false =>
        go_wp2
        go_roundw
        case measure => simp [intOf]; omega
        case rel => exact ⟨k + 1, by go_num, by omega, Lib.hid (fun j hj => by
          by_cases e : j = k
          · subst e; rw [← HX.out]; exact of_decide_eq_false HZ.out.symm
          · exact HJ.out j (by omega)), hbel.trans (hh.mono hsz)⟩
    · have HRF : Hid (r = false) := Lib.hid (by
        rw [HR.out, List.any_eq_false]
        intro x hx
        obtain ⟨j, hj, rfl⟩ := List.getElem_of_mem hx
        have := HJ.out j (by have := HN.out; omega)
        rw [getD_at hj] at this
        simpa using this)
      go_wp2
      go_ret
      exact ⟨ret_bool HRF.out.symm, hbw⟩
set_option maxRecDepth 20000 in
/-- laws.tail: bytes to draw with, again -/
theorem tail_any {B n cap : Nat} {W0 : World} {A : Option Addr} (hc : draw.Code B W0 (.slice A n cap) n) (w : World) :
    Calls Try.prog 7 #[.slice A n cap] w fun e w' => ∃ v' n', e = .returned v' ∧ draw.Code B W0 v' n' ∧ w = w' := by
  by_cases hz : n = 0
  · subst hz
    have HC := Lib.hid hc
    clear hc
    go_enter Try.func7, Try.ntmps7
    go_wp2
    go_ret
    exact ⟨_, 0, rfl, HC.out, rfl⟩
  · obtain ⟨A', cap', hv, hn, hcap, hcells⟩ := hc
    simp only [Value.slice.injEq, true_and] at hv
    obtain ⟨rfl, rfl⟩ := hv
    obtain ⟨g, o, b0, rfl, _⟩ := hcells 0 (by omega)
    have hel : Try.prog.elem 22 = 5 := by kernel_rfl
    have hsl : Try.prog.underlying 22 = some (.slice (Try.prog.elem 22)) := by rw [hel]; exact Try.underlying22
    have hinf : (Try.prog.info? 5).map (fun i => (i.zero, i.size, i.bytes)) = some (some (.int .u8 0), 1, 1) := by kernel_rfl
    obtain ⟨i0, hi0, _, _, _⟩ := info_parts hinf
    have hcs : Try.prog.cellsOf 5 = 1 := by kernel_rfl
    have hrun : ∀ W, (Instr.sliceAt 22 (.slice (some ⟨g, o, none⟩) n cap) (some (.int .i64 1)) none none).run Try.prog W = .ok (sliced (some ⟨g, o, none⟩) 1 n cap 1) W := fun W => by
      rw [run_sliceAt_slice W _ _ _ _ _ hsl, run_slice_l W _ _ _ _ hsl .i64 1 (by omega) (by omega), hel, run_sizeOf W hi0, hcs]
      rfl
    obtain ⟨q, hq, HT⟩ : ∃ q, (∀ W, (Instr.sliceAt 22 (.slice (some ⟨g, o, none⟩) n cap) (some (.int .i64 1)) none none).run Try.prog W = .ok (.slice (some ⟨g, q, none⟩) (n - 1) (cap - 1)) W) ∧ Hid (draw.Code B W0 (.slice (some ⟨g, q, none⟩) (n - 1) (cap - 1)) (n - 1)) := by
      by_cases h1 : cap = 1
      · refine ⟨o, fun W => by rw [hrun W, sliced, if_pos h1], Lib.hid ⟨_, _, rfl, by omega, by omega, fun j hj => by omega⟩⟩
      · refine ⟨o + 1, fun W => by rw [hrun W, sliced, if_neg h1]; simp only [Option.map_some, Addr.add_lit, Nat.one_mul], Lib.hid ⟨_, _, rfl, by omega, by omega, fun j hj => ?_⟩⟩
        obtain ⟨g', o', b, e, h2, h3, h4⟩ := hcells (j + 1) (by omega)
        simp only [Option.some.injEq, Addr.mk.injEq, and_true] at e
        obtain ⟨rfl, rfl⟩ := e
        exact ⟨g, o + 1, b, rfl, h2, by rw [show o + 1 + j = o + (j + 1) by omega]; exact h3, h4⟩
    have d1 : decide ((n : Int) = 0) = false := decide_eq_false (by omega)
    have d2 : ((n : Int) == 0) = false := by simp; omega
    clear hcells hrun hinf hi0 hel hsl hcs
    go_enter Try.func7, Try.ntmps7
    go_wp2
    go_ret
    exact ⟨_, n - 1, rfl, HT.out, rfl⟩
end Go.Proofs.Ytkkmjaggebjcbaa.drawh
