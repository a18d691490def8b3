/-
  CONTRACT OF laws.has ON VARIABLES' ROWS.
-/
import Derived.Test.YtejmfiocdecigaaTermic
namespace Go.Proofs.Ytejmfiocdecigaa.drawo
open Go.ChangeShapes Go.WideShapes Go.ChangeAt Go.RowKit
open mem rowl trm trmv terml termb termt termu termv termvo termx termz termvr termcf termvx termin termic

set_option maxRecDepth 50000 in
set_option maxHeartbeats 4000000 in
/-- laws.has, at a row of variables -/
theorem has_any {nn : Nat} (L : List TermM) (t : TermM) (va : Value) (n g cap b : Nat) (w : World) {lo : Nat} (hn : n = L.length) (hn30 : n ≤ 1073741824) (hL : ∀ x ∈ L, Flat x) (ht : HasTs nn lo w va t.args) (ho : w.ownsRow b 26 4 (.slice (some ⟨g, 0, none⟩) n cap) n (flatV L)) (r : Bool) (hr : r = L.any (fun x => decide (cmp x t = 0))) :
    Calls Try.prog 13 #[.slice (some ⟨g, 0, none⟩) n cap, aggT t va] w fun e w' => e = .returned (.bool r) ∧ Below w.heap.size w w' := by
  obtain ⟨hbg, hgw, hnc⟩ := own_lt ho
  have HSM := Lib.hid (fun x (hx : x.args = []) W (hW : Below w.heap.size w W) r hr => lsame_any (n := 1) (m := nn) (lo := 0) (lo' := lo) x t (.slice none 0 0) va W (by rw [hx]; exact HasR.nil _ _ _ (by unfold maxLen; omega) _) (ht.below (Nat.le_refl _) hW) r hr)
  have HA : Hid (∀ j, j < n → (L.getD j default).args = []) := Lib.hid (fun j hj => by rw [getD_at (by omega)]; exact (hL _ (List.getElem_mem _)).1)
  obtain ⟨A, c, rfl, _⟩ := HasR.shape ht rfl
  have HN := Lib.hid hn
  have HO := Lib.hid ho
  have HR := Lib.hid hr
  unfold aggT at HSM ⊢
  obtain ⟨q, hq⟩ : ∃ q, q = t.args.length := ⟨_, rfl⟩
  rw [← hq] at HSM ⊢
  obtain ⟨to, hto⟩ : ∃ q, q = t.op := ⟨_, rfl⟩
  obtain ⟨tn, htn⟩ : ∃ q, q = t.name := ⟨_, rfl⟩
  obtain ⟨ts, hts⟩ : ∃ q, q = t.sort := ⟨_, rfl⟩
  rw [← hto, ← htn, ← hts] at HSM ⊢
  clear hn hL ho ht hr hq hto htn hts
  go_enter Try.func13, Try.ntmps13
  go_wp2
  go_loopw [5] (fun v5 wr => ∃ k : Nat, v5 = .int .i64 k ∧ k ≤ n ∧ Hid (∀ j, j < k → cmp (L.getD j default) t ≠ 0) ∧ Below (w.heap.size + 1) (w.alloc (.cells #[.int .i64 to, .string (bstr tn), .int .i64 ts, .slice A q c] 26)) wr) (fun i _ => n - (intOf i).toNat)
  case atStart => exact ⟨0, rfl, Nat.zero_le _, Lib.hid (fun j h => by omega), Below.refl _ _⟩
  case round =>
    obtain ⟨k, rfl, hkn, HJ, hbel⟩ := hrel
    have hsz : w.heap.size + 1 ≤ wr.heap.size := by have := hbel.size; simp at this; omega
    have hbw : Below w.heap.size w wr := ((Below.refl _ _).alloc (Nat.le_refl _) _).trans (hbel.mono (by omega))
    have hx0 : w.heap.size < wr.heap.size := by omega
    have hgr : g < wr.heap.size := by omega
    have q0 : wr.cell? ⟨w.heap.size, 0, none⟩ = some (.int .i64 to) := (hbel.cell (p := ⟨w.heap.size, 0, none⟩) (Nat.lt_succ_self _)).trans (by simp)
    have q1 : wr.cell? ⟨w.heap.size, 1, none⟩ = some (.string (bstr tn)) := (hbel.cell (p := ⟨w.heap.size, 1, none⟩) (Nat.lt_succ_self _)).trans (by simp)
    have q2 : wr.cell? ⟨w.heap.size, 2, none⟩ = some (.int .i64 ts) := (hbel.cell (p := ⟨w.heap.size, 2, none⟩) (Nat.lt_succ_self _)).trans (by simp)
    have q3 : wr.cell? ⟨w.heap.size, 3, none⟩ = some (.slice A q c) := (hbel.cell (p := ⟨w.heap.size, 3, none⟩) (Nat.lt_succ_self _)).trans (by simp)
    have HO1 := Lib.hid (own_below HO.out hbw)
    have nb : Nonempty (BoxC (Below wr.heap.size wr)) := ⟨⟨_, Below.refl _ _⟩⟩
    by_cases hlt : k < n
    · have hln : n = L.length := HN.out
      obtain ⟨c0, c1, c2, c3⟩ := cells_at HO1.out hlt (flatV_at (by omega))
      obtain ⟨x, hx⟩ : ∃ t, t = L.getD k default := ⟨_, rfl⟩
      rw [← hx] at c0 c1 c2
      have hxa : x.args = [] := by rw [hx]; exact HA.out _ hlt
      have HX := Lib.hid hx
      obtain ⟨z, hz⟩ : ∃ z, z = decide (cmp x t = 0) := ⟨_, rfl⟩
      have HS1 := Lib.hid (fun W' (hW' : Below wr.heap.size wr W') => HSM.out x hxa W' (hbw.trans (hW'.mono hbw.size)) z hz.symm)
      have HZ := Lib.hid hz
      have r0 : ∀ t : BoxC (Below wr.heap.size wr), t.W.cell? ⟨g, k * 4, none⟩ = some (.int .i64 x.op) := fun t => t.cell c0 hgr
      have r1 : ∀ t : BoxC (Below wr.heap.size wr), t.W.cell? ⟨g, k * 4 + 1, none⟩ = some (.string (bstr x.name)) := fun t => t.cell c1 hgr
      have r2 : ∀ t : BoxC (Below wr.heap.size wr), t.W.cell? ⟨g, k * 4 + 2, none⟩ = some (.int .i64 x.sort) := fun t => t.cell c2 hgr
      have r3 : ∀ t : BoxC (Below wr.heap.size wr), t.W.cell? ⟨g, k * 4 + 3, none⟩ = some (.slice none 0 0) := fun t => t.cell c3 hgr
      have s0 : ∀ t : BoxC (Below wr.heap.size wr), t.W.cell? ⟨w.heap.size, 0, none⟩ = some (.int .i64 to) := fun t => t.cell q0 hx0
      have s1 : ∀ t : BoxC (Below wr.heap.size wr), t.W.cell? ⟨w.heap.size, 1, none⟩ = some (.string (bstr tn)) := fun t => t.cell q1 hx0
      have s2 : ∀ t : BoxC (Below wr.heap.size wr), t.W.cell? ⟨w.heap.size, 2, none⟩ = some (.int .i64 ts) := fun t => t.cell q2 hx0
      have s3 : ∀ t : BoxC (Below wr.heap.size wr), t.W.cell? ⟨w.heap.size, 3, none⟩ = some (.slice A q c) := fun t => t.cell q3 hx0
      clear hln hxa hx hz c0 c1 c2 c3 q0 q1 q2 q3
      have i1 : (0 : Int) ≤ (k : Int) := by omega
      have i2 : (k : Int) < (n : Int) := by omega
      unfold aggT at HS1
      go_wp2_with fail
      refine region_boxC (C := Below wr.heap.size wr) (by kernel_rfl) (by kernel_rfl) (Below.refl _ _).drew ?_
      repeat (go_big_quiet_step ((go_at_call 45; exact (HS1.out _ (BoxC.h _)).mono (fun _ _ h => ⟨h.1, BoxC.step _ h.2⟩))))
      refine wpQuiet_nil ?_
      rintro w5 ⟨t5, rfl⟩
      have hh := t5.h
      clear r0 r1 r2 r3 s0 s1 s2 s3
      cases z with
      | true =>
        have HRT : Hid (r = true) := Lib.hid (by
          rw [HR.out, List.any_eq_true]
          exact ⟨x, by rw [HX.out, getD_at (by have := HN.out; omega)]; exact List.getElem_mem _, HZ.out.symm⟩)
        go_wp2
        go_ret
        exact ⟨ret_bool HRT.out.symm, hbw.trans (hh.mono (by omega))⟩
      | false =>
        go_wp2
        go_roundw
        case measure => simp [intOf]; omega
        case rel => exact ⟨k + 1, by go_num, by omega, Lib.hid (fun j hj => by
          by_cases e : j = k
          · subst e; rw [← HX.out]; exact of_decide_eq_false HZ.out.symm
          · exact HJ.out j (by omega)), hbel.trans (hh.mono hsz)⟩
    · have HRF : Hid (r = false) := Lib.hid (by
        rw [HR.out, List.any_eq_false]
        intro x hx
        obtain ⟨j, hj, rfl⟩ := List.getElem_of_mem hx
        have := HJ.out j (by have := HN.out; omega)
        rw [getD_at hj] at this
        simpa using this)
      go_wp2
      go_ret
      exact ⟨ret_bool HRF.out.symm, hbw⟩
end Go.Proofs.Ytejmfiocdecigaa.drawo
