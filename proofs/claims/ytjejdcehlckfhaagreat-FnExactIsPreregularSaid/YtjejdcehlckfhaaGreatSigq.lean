/-
  THE PROGRAM's FUNCTIONS OF SIGNATURES: fitsArguments, fitsUnit, fitAxioms.
-/
import Derived.Test.YtjejdcehlckfhaaGreatSigk
namespace Go.Proofs.YtjejdcehlckfhaaGreat.sigq
open Go.ChangeShapes Go.WideShapes Go.ChangeAt Go.RowKit
open mem split strl join subs sortn setm sets sortm sortp sorti sortf rowl sigm sigs sigi sigj sigk

/-- five cells of a block stay, whatever a call adds -/
theorem keep_five {wr w0 w1 : World} {g o : Nat} {a0 a1 a2 a3 a4 : Value}
    (h : (w0.cell? ⟨g, o, none⟩ = some a0 ∧ w0.cell? ⟨g, o + 1, none⟩ = some a1 ∧ w0.cell? ⟨g, o + 2, none⟩ = some a2 ∧ w0.cell? ⟨g, o + 3, none⟩ = some a3 ∧ w0.cell? ⟨g, o + 4, none⟩ = some a4) ∧ Below wr.heap.size wr w0)
    (hp : g < wr.heap.size) (hb : Below w0.heap.size w0 w1) :
    (w1.cell? ⟨g, o, none⟩ = some a0 ∧ w1.cell? ⟨g, o + 1, none⟩ = some a1 ∧ w1.cell? ⟨g, o + 2, none⟩ = some a2 ∧ w1.cell? ⟨g, o + 3, none⟩ = some a3 ∧ w1.cell? ⟨g, o + 4, none⟩ = some a4) ∧ Below wr.heap.size wr w1 := by
  have hs := h.2.size
  have k : ∀ x, w1.cell? ⟨g, x, none⟩ = w0.cell? ⟨g, x, none⟩ := fun x => hb.cell (p := ⟨g, x, none⟩) (by show g < _; omega)
  rw [k, k, k, k, k]
  exact ⟨h.1, h.2.trans (hb.mono hs)⟩
theorem keep_six {wr w0 w1 : World} {g o g' o' : Nat} {b a0 a1 a2 a3 a4 : Value}
    (h : (w0.cell? ⟨g', o', none⟩ = some b ∧ w0.cell? ⟨g, o, none⟩ = some a0 ∧ w0.cell? ⟨g, o + 1, none⟩ = some a1 ∧ w0.cell? ⟨g, o + 2, none⟩ = some a2 ∧ w0.cell? ⟨g, o + 3, none⟩ = some a3 ∧ w0.cell? ⟨g, o + 4, none⟩ = some a4) ∧ Below wr.heap.size wr w0)
    (hp : g < wr.heap.size ∧ g' < wr.heap.size) (hb : Below w0.heap.size w0 w1) :
    (w1.cell? ⟨g', o', none⟩ = some b ∧ w1.cell? ⟨g, o, none⟩ = some a0 ∧ w1.cell? ⟨g, o + 1, none⟩ = some a1 ∧ w1.cell? ⟨g, o + 2, none⟩ = some a2 ∧ w1.cell? ⟨g, o + 3, none⟩ = some a3 ∧ w1.cell? ⟨g, o + 4, none⟩ = some a4) ∧ Below wr.heap.size wr w1 := by
  have hs := h.2.size
  have k : ∀ x, w1.cell? ⟨g, x, none⟩ = w0.cell? ⟨g, x, none⟩ := fun x => hb.cell (p := ⟨g, x, none⟩) (by show g < _; omega)
  rw [k, k, k, k, k, hb.cell (p := ⟨g', o', none⟩) (by show g' < _; omega)]
  exact ⟨h.1, h.2.trans (hb.mono hs)⟩
set_option maxRecDepth 20000 in
set_option maxHeartbeats 2000000 in
/-- impl.fitsArguments -/
theorem fitsArguments_any (l : List UInt8) (A : Option Addr) (n ca : Nat) (a c : Bool) (u : Int) (s0 s1 s2 s3 s4 : Nat) (r : Bool) (hr : argsS a c u (s0, s1, s2, s3, s4) = r) (w : World) :
    Calls Tryz.prog 183 #[.agg #[.string (bstr l), .slice A n ca, .bool a, .bool c, .int .i64 u], .agg #[.int .i64 (s0 : Int), .int .u16 (s1 : Int), .int .u16 (s2 : Int), .int .u16 (s3 : Int), .int .u16 (s4 : Int)]] w
      fun e w' => e = .returned (.bool r) ∧ Below w.heap.size w w' := by
  have hcmp : ∀ (t : Nat) (q : Bool), decide (((s0, s1, s2, s3, s4) : Shp) = (2, s1, s1, 0, t)) = q → ∀ W, (binOp .eql 100 (.agg #[.int .i64 (s0 : Int), .int .u16 (s1 : Int), .int .u16 (s2 : Int), .int .u16 (s3 : Int), .int .u16 (s4 : Int)]) (.agg #[.int .i64 2, .int .u16 (s1 : Int), .int .u16 (s1 : Int), .int .u16 0, .int .u16 (t : Int)])).run Tryz.prog W = .ok (.bool q) W :=
    fun t q hq W => eql_shape _ (2, s1, s1, 0, t) _ hq W
  have HC := Lib.hid hcmp
  clear hcmp
  have HST : Hid (∀ (a b : Nat) (W : World), Calls Tryz.prog 214 #[.int .u16 (a : Int), .int .u16 (b : Int)] W fun e w' => e = .returned (.agg #[.int .i64 2, .int .u16 (a : Int), .int .u16 (a : Int), .int .u16 0, .int .u16 (b : Int)]) ∧ Below W.heap.size W w') := Lib.hid (fun a b W => shapeOfTwo_any a b W)
  by_cases hau : a = true ∨ u ≠ 0
  · have HR : Hid (decide (((s0, s1, s2, s3, s4) : Shp) = (2, s1, s1, 0, s1)) = r) := Lib.hid (by
      rw [← hr, argsS]
      rw [if_pos (by rcases hau with h | h <;> simp [h])])
    have hq := HC.out s1 r HR.out
    clear hr
    cases a with
    | true =>
      clear hau
      go_enter Tryz.func183, Tryz.ntmps183
      go_wp2_with fail
      generalize hW : ((w.alloc (.cells #[.string (bstr l), .slice A n ca, .bool true, .bool c, .int .i64 u] 97)).alloc (.cells #[.int .i64 (s0 : Int), .int .u16 (s1 : Int), .int .u16 (s2 : Int), .int .u16 (s3 : Int), .int .u16 (s4 : Int)] 100)) = W2
      have hbw : Below w.heap.size w W2 := by rw [← hW]; exact ((Below.refl _ _).alloc (Nat.le_refl _) _).alloc (by simp) _
      have hz : w.heap.size + 1 < W2.heap.size := by rw [← hW]; simp
      have k1 : W2.heap[w.heap.size + 1]? = some (.cells #[.int .i64 (s0 : Int), .int .u16 (s1 : Int), .int .u16 (s2 : Int), .int .u16 (s3 : Int), .int .u16 (s4 : Int)] 100 (0, 0)) := by rw [← hW]; exact heap_at _ _ _ (by simp)
      have c0 : W2.cell? ⟨w.heap.size + 1, 0, none⟩ = some (.int .i64 (s0 : Int)) := cell_of_row W2 _ 0 _ _ _ k1
      have c1 : W2.cell? ⟨w.heap.size + 1, 1, none⟩ = some (.int .u16 (s1 : Int)) := cell_of_row W2 _ 1 _ _ _ k1
      have c2 : W2.cell? ⟨w.heap.size + 1, 2, none⟩ = some (.int .u16 (s2 : Int)) := cell_of_row W2 _ 2 _ _ _ k1
      have c3 : W2.cell? ⟨w.heap.size + 1, 3, none⟩ = some (.int .u16 (s3 : Int)) := cell_of_row W2 _ 3 _ _ _ k1
      have c4 : W2.cell? ⟨w.heap.size + 1, 4, none⟩ = some (.int .u16 (s4 : Int)) := cell_of_row W2 _ 4 _ _ _ k1
      clear hW k1
      go_region_held3 (fun w' => (w'.cell? ⟨w.heap.size + 1, 0, none⟩ = some (.int .i64 (s0 : Int)) ∧ w'.cell? ⟨w.heap.size + 1, 1, none⟩ = some (.int .u16 (s1 : Int)) ∧ w'.cell? ⟨w.heap.size + 1, 2, none⟩ = some (.int .u16 (s2 : Int)) ∧ w'.cell? ⟨w.heap.size + 1, 3, none⟩ = some (.int .u16 (s3 : Int)) ∧ w'.cell? ⟨w.heap.size + 1, 4, none⟩ = some (.int .u16 (s4 : Int))) ∧ Below W2.heap.size W2 w')
        (first | (refine ⟨⟨?_, ?_, ?_, ?_, ?_⟩, (Below.refl _ _).drew⟩ <;> assumption) | (go_split_ands; exact keep_five (g := w.heap.size + 1) (o := 0) ⟨⟨by assumption, by assumption, by assumption, by assumption, by assumption⟩, by assumption⟩ hz (by assumption)))
        ((go_at_call 214; go_split_ands; refine (HST.out _ _ _).mono ?_; rintro e w3 ⟨rfl, hb3⟩))
      go_wp2
      have hh : Below W2.heap.size W2 w3 := by go_split_ands; assumption
      go_ret
      exact ⟨rfl, hbw.trans (hh.mono hbw.size)⟩
    | false =>
      have hu : (u != 0) = true := by simpa using hau
      clear hau
      go_enter Tryz.func183, Tryz.ntmps183
      go_wp2_with fail
      generalize hW : ((w.alloc (.cells #[.string (bstr l), .slice A n ca, .bool false, .bool c, .int .i64 u] 97)).alloc (.cells #[.int .i64 (s0 : Int), .int .u16 (s1 : Int), .int .u16 (s2 : Int), .int .u16 (s3 : Int), .int .u16 (s4 : Int)] 100)) = W2
      have hbw : Below w.heap.size w W2 := by rw [← hW]; exact ((Below.refl _ _).alloc (Nat.le_refl _) _).alloc (by simp) _
      have hz : w.heap.size + 1 < W2.heap.size := by rw [← hW]; simp
      have k1 : W2.heap[w.heap.size + 1]? = some (.cells #[.int .i64 (s0 : Int), .int .u16 (s1 : Int), .int .u16 (s2 : Int), .int .u16 (s3 : Int), .int .u16 (s4 : Int)] 100 (0, 0)) := by rw [← hW]; exact heap_at _ _ _ (by simp)
      have c0 : W2.cell? ⟨w.heap.size + 1, 0, none⟩ = some (.int .i64 (s0 : Int)) := cell_of_row W2 _ 0 _ _ _ k1
      have c1 : W2.cell? ⟨w.heap.size + 1, 1, none⟩ = some (.int .u16 (s1 : Int)) := cell_of_row W2 _ 1 _ _ _ k1
      have c2 : W2.cell? ⟨w.heap.size + 1, 2, none⟩ = some (.int .u16 (s2 : Int)) := cell_of_row W2 _ 2 _ _ _ k1
      have c3 : W2.cell? ⟨w.heap.size + 1, 3, none⟩ = some (.int .u16 (s3 : Int)) := cell_of_row W2 _ 3 _ _ _ k1
      have c4 : W2.cell? ⟨w.heap.size + 1, 4, none⟩ = some (.int .u16 (s4 : Int)) := cell_of_row W2 _ 4 _ _ _ k1
      clear hW k1
      go_region_held3 (fun w' => (w'.cell? ⟨w.heap.size + 1, 0, none⟩ = some (.int .i64 (s0 : Int)) ∧ w'.cell? ⟨w.heap.size + 1, 1, none⟩ = some (.int .u16 (s1 : Int)) ∧ w'.cell? ⟨w.heap.size + 1, 2, none⟩ = some (.int .u16 (s2 : Int)) ∧ w'.cell? ⟨w.heap.size + 1, 3, none⟩ = some (.int .u16 (s3 : Int)) ∧ w'.cell? ⟨w.heap.size + 1, 4, none⟩ = some (.int .u16 (s4 : Int))) ∧ Below W2.heap.size W2 w')
        (first | (refine ⟨⟨?_, ?_, ?_, ?_, ?_⟩, (Below.refl _ _).drew⟩ <;> assumption) | (go_split_ands; exact keep_five (g := w.heap.size + 1) (o := 0) ⟨⟨by assumption, by assumption, by assumption, by assumption, by assumption⟩, by assumption⟩ hz (by assumption)))
        ((go_at_call 214; go_split_ands; refine (HST.out _ _ _).mono ?_; rintro e w3 ⟨rfl, hb3⟩))
      go_wp2
      have hh : Below W2.heap.size W2 w3 := by go_split_ands; assumption
      go_ret
      exact ⟨rfl, hbw.trans (hh.mono hbw.size)⟩
  · have ha : a = false := by cases a <;> simp_all
    have hu : u = 0 := by
      by_cases h : u = 0
      · exact h
      · exact absurd (Or.inr h) hau
    subst ha hu
    clear hau
    cases c with
    | false =>
      have HR : Hid (r = true) := Lib.hid (by rw [← hr, argsS]; simp)
      clear hr
      go_enter Tryz.func183, Tryz.ntmps183
      go_wp2
      go_quiet (fail)
      go_wp2
      go_ret
      exact ⟨ret_bool HR.out.symm, below_drewN (((Below.refl _ _).alloc (Nat.le_refl _) _).alloc (by simp) _) _⟩
    | true =>
      have HR : Hid (decide (((s0, s1, s2, s3, s4) : Shp) = (2, s1, s1, 0, s4)) = r) := Lib.hid (by rw [← hr, argsS]; simp)
      have hq := HC.out s4 r HR.out
      clear hr
      go_enter Tryz.func183, Tryz.ntmps183
      go_wp2_with fail
      generalize hW : ((w.alloc (.cells #[.string (bstr l), .slice A n ca, .bool false, .bool true, .int .i64 0] 97)).alloc (.cells #[.int .i64 (s0 : Int), .int .u16 (s1 : Int), .int .u16 (s2 : Int), .int .u16 (s3 : Int), .int .u16 (s4 : Int)] 100)) = W2
      have hbw : Below w.heap.size w W2 := by rw [← hW]; exact ((Below.refl _ _).alloc (Nat.le_refl _) _).alloc (by simp) _
      have hz : w.heap.size + 1 < W2.heap.size := by rw [← hW]; simp
      have k1 : W2.heap[w.heap.size + 1]? = some (.cells #[.int .i64 (s0 : Int), .int .u16 (s1 : Int), .int .u16 (s2 : Int), .int .u16 (s3 : Int), .int .u16 (s4 : Int)] 100 (0, 0)) := by rw [← hW]; exact heap_at _ _ _ (by simp)
      have b3 : W2.cell? ⟨w.heap.size, 3, none⟩ = some (.bool true) := by rw [← hW]; simp
      have c0 : W2.cell? ⟨w.heap.size + 1, 0, none⟩ = some (.int .i64 (s0 : Int)) := cell_of_row W2 _ 0 _ _ _ k1
      have c1 : W2.cell? ⟨w.heap.size + 1, 1, none⟩ = some (.int .u16 (s1 : Int)) := cell_of_row W2 _ 1 _ _ _ k1
      have c2 : W2.cell? ⟨w.heap.size + 1, 2, none⟩ = some (.int .u16 (s2 : Int)) := cell_of_row W2 _ 2 _ _ _ k1
      have c3 : W2.cell? ⟨w.heap.size + 1, 3, none⟩ = some (.int .u16 (s3 : Int)) := cell_of_row W2 _ 3 _ _ _ k1
      have c4 : W2.cell? ⟨w.heap.size + 1, 4, none⟩ = some (.int .u16 (s4 : Int)) := cell_of_row W2 _ 4 _ _ _ k1
      clear hW k1
      go_region_held3 (fun w' => (w'.cell? ⟨w.heap.size, 3, none⟩ = some (.bool true) ∧ w'.cell? ⟨w.heap.size + 1, 0, none⟩ = some (.int .i64 (s0 : Int)) ∧ w'.cell? ⟨w.heap.size + 1, 1, none⟩ = some (.int .u16 (s1 : Int)) ∧ w'.cell? ⟨w.heap.size + 1, 2, none⟩ = some (.int .u16 (s2 : Int)) ∧ w'.cell? ⟨w.heap.size + 1, 3, none⟩ = some (.int .u16 (s3 : Int)) ∧ w'.cell? ⟨w.heap.size + 1, 4, none⟩ = some (.int .u16 (s4 : Int))) ∧ Below W2.heap.size W2 w')
        (first | (refine ⟨⟨?_, ?_, ?_, ?_, ?_, ?_⟩, (Below.refl _ _).drew⟩ <;> assumption) | (go_split_ands; exact keep_six (g := w.heap.size + 1) (o := 0) (g' := w.heap.size) ⟨⟨by assumption, by assumption, by assumption, by assumption, by assumption, by assumption⟩, by assumption⟩ ⟨hz, by omega⟩ (by assumption)))
        ((go_at_call 214; go_split_ands; refine (HST.out _ _ _).mono ?_; rintro e w3 ⟨rfl, hb3⟩))
      go_wp2
      have hh : Below W2.heap.size W2 w3 := by go_split_ands; assumption
      go_ret
      exact ⟨rfl, hbw.trans (hh.mono hbw.size)⟩
set_option maxRecDepth 20000 in
set_option maxHeartbeats 2000000 in
/-- impl.fitsUnit -/
theorem fitsUnit_any (l : List UInt8) (A : Option Addr) (n ca : Nat) (a c : Bool) (u : Int) (hu : I64 u) (s0 s1 s2 s3 s4 : Nat) (S : List Shp) (r : Bool) (hr : unitS u (s0, s1, s2, s3, s4) S = r) (vT : Value) (w : World) (h : HasT w vT S) :
    Calls Tryz.prog 184 #[.agg #[.string (bstr l), .slice A n ca, .bool a, .bool c, .int .i64 u], .agg #[.int .i64 (s0 : Int), .int .u16 (s1 : Int), .int .u16 (s2 : Int), .int .u16 (s3 : Int), .int .u16 (s4 : Int)], vT] w
      fun e w' => e = .returned (.bool r) ∧ Below w.heap.size w w' := by
  obtain ⟨m, hm⟩ : ∃ m, m = S.length := ⟨_, rfl⟩
  obtain ⟨B, cb, rfl, h⟩ := HasR.shape h hm.symm
  have hl := h.len.2.1
  obtain ⟨hu1, hu2⟩ := hu
  by_cases h0 : u = 0
  · have HR : Hid (r = true) := Lib.hid (by rw [← hr, unitS]; simp [h0])
    clear hr h hm
    subst h0
    go_enter Tryz.func184, Tryz.ntmps184
    go_wp2
    go_ret
    exact ⟨ret_bool HR.out.symm, ((Below.refl _ _).alloc (Nat.le_refl _) _).alloc (by simp) _⟩
  have h0' : (u == 0) = false := by simpa using h0
  by_cases hneg : u < 0
  · have HR : Hid (r = false) := Lib.hid (by rw [← hr, unitS]; simp [h0]; omega)
    clear hr h hm
    go_enter Tryz.func184, Tryz.ntmps184
    go_wp2
    go_ret
    exact ⟨ret_bool HR.out.symm, ((Below.refl _ _).alloc (Nat.le_refl _) _).alloc (by simp) _⟩
  by_cases hbig : (m : Int) < u
  · have HR : Hid (r = false) := Lib.hid (by rw [← hr, unitS]; simp [h0]; omega)
    clear hr h hm
    go_enter Tryz.func184, Tryz.ntmps184
    go_wp2
    go_ret
    exact ⟨ret_bool HR.out.symm, ((Below.refl _ _).alloc (Nat.le_refl _) _).alloc (by simp) _⟩
  obtain ⟨k, rfl⟩ : ∃ k : Nat, u = (k : Int) + 1 := ⟨(u - 1).toNat, by omega⟩
  have hk : k < m := by omega
  have HR : Hid (decide (S.getD k default = (0, 0, 0, 0, s4)) = r) := Lib.hid (by
    rw [← hr, unitS]
    have e : ((k : Int) + 1).toNat - 1 = k := by omega
    rw [e]
    simp [h0]
    intro _
    omega)
  obtain ⟨g, o, rfl, hg, c0, c1, c2, c3, c4⟩ := shape_at h hk
  obtain ⟨⟨t0, t1, t2, t3, t4⟩, ht⟩ : ∃ s, s = S.getD k default := ⟨_, rfl⟩
  rw [← ht] at HR c0 c1 c2 c3 c4
  have hcmp : ∀ W, (binOp .eql 100 (.agg #[.int .i64 (t0 : Int), .int .u16 (t1 : Int), .int .u16 (t2 : Int), .int .u16 (t3 : Int), .int .u16 (t4 : Int)]) (.agg #[.int .i64 0, .int .u16 0, .int .u16 0, .int .u16 0, .int .u16 (s4 : Int)])).run Tryz.prog W = .ok (.bool r) W :=
    fun W => eql_shape (t0, t1, t2, t3, t4) (0, 0, 0, 0, s4) _ HR.out W
  clear hr h hm ht HR
  go_enter Tryz.func184, Tryz.ntmps184
  go_wp2
  go_quiet (fail)
  go_wp2
  go_ret
  exact ⟨rfl, below_drewN (((Below.refl _ _).alloc (Nat.le_refl _) _).alloc (by simp) _) _⟩
end Go.Proofs.YtjejdcehlckfhaaGreat.sigq
